package storm

import (
	"math"
	"slices"
	"testing"

	"crossway/api"
	"crossway/world"
)

func items(many int) []api.Item {
	var l []api.Item
	for n := range many {
		l = append(l, api.Item{Leg: api.LegWorld, D: api.Datagram{From: api.Addr(n + 1), To: 2, S: "bytes"}})
	}
	return l
}

var tick = api.Act{What: api.ActTick, A: 1}

func TestDraw(t *testing.T) {
	s := New(api.Weather{Seed: 7})
	seed := uint64(7)
	for n := range 1000 {
		below := n*n + 1
		seed = seed*6364136223846793005 + 1442695040888963407
		if got := s.Draw(below); got != int(seed>>33)%below {
			t.Fatal("Draw", below, got)
		}
	}
	for _, below := range []int{0, -1, math.MinInt} {
		if s.Draw(below) != 0 {
			t.Error("Draw", below)
		}
	}
	seed = seed*6364136223846793005 + 1442695040888963407
	if s.Draw(math.MaxInt) != int(seed>>33) {
		t.Error("none is drawn below 1")
	}
}

// whats counts what becomes of the first packets of some, so often.
func whats(s *Storm, l []api.Item, many int) map[int]int {
	count := map[int]int{}
	for range many {
		count[s.Next(l).What]++
	}
	return count
}

func TestNoWeather(t *testing.T) {
	s := New(api.Weather{Seed: 3})
	if s.Next(nil) != tick || s.weather.Seed != 3 {
		t.Error("nothing is under way, and nothing is drawn")
	}
	c := whats(s, items(9), 8000)
	if len(c) != 2 || c[api.ActTick] < 800 || c[api.ActTick] > 1200 {
		t.Error("all comes", c)
	}
	seen := map[int]int{}
	for range 1000 {
		seen[s.Next(items(9)).A]++
	}
	if len(seen) != 4 || seen[3] == 0 {
		t.Error("one of the first four", seen)
	}
	if a := s.Next(items(1)); a.A != 0 && a != tick {
		t.Error("one of one", a)
	}
}

func TestWeather(t *testing.T) {
	c := whats(New(api.Weather{Lose: 20, Double: 10, Bend: 30, Most: 100}), items(4), 10000)
	for what, want := range map[int]int{api.ActTick: 1250, api.ActLose: 1750, api.ActBend: 2100, api.ActDouble: 490, api.ActDeliver: 4410} {
		if c[what] < want*8/10 || c[what] > want*12/10 {
			t.Error("how often", what, c[what])
		}
	}
	if c := whats(New(api.Weather{Lose: 900, Double: -4, Bend: -1, Most: 101}), items(1), 90); c[api.ActDouble]+c[api.ActBend]+c[api.ActDeliver] != 0 {
		t.Error("others count as the nearer end", c)
	}
	if c := whats(New(api.Weather{Double: 100}), items(150), 1000); c[api.ActDouble] != 0 {
		t.Error("half of MostNet are under way", c)
	}
	if c := whats(New(api.Weather{Double: 100}), items(149), 1000); c[api.ActDeliver] != 0 || c[api.ActDouble] == 0 {
		t.Error("fewer than half of MostNet are under way", c)
	}
	bent := items(1)
	bent[0].Bent = true
	if c := whats(New(api.Weather{Lose: 100, Double: 100, Bend: 100, Most: 100}), bent, 1000); c[api.ActTick]+c[api.ActDeliver] != 1000 {
		t.Error("one that is bent comes", c)
	}
	if c := whats(New(api.Weather{Lose: 100, Bend: 100}), items(4), 1000); c[api.ActLose]+c[api.ActBend] != 0 {
		t.Error("Most is 0", c)
	}
}

func TestFair(t *testing.T) {
	for _, x := range []api.Weather{{Lose: 100, Most: 3}, {Bend: 100, Most: 3}, {Lose: 50, Bend: 100, Most: 3}} {
		s := New(x)
		lost := map[api.Addr]int{}
		l := items(3)
		for range 5000 {
			a := s.Next(l)
			if a == tick {
				continue
			}
			from := l[a.A].D.From
			switch a.What {
			case api.ActLose, api.ActBend:
				lost[from]++
				if lost[from] > 3 || a.B < 0 || a.B >= 16384 {
					t.Fatal("too many of one way", a)
				}
			case api.ActDeliver:
				if lost[from] != 3 {
					t.Fatal("too few of one way", lost[from])
				}
				lost[from] = 0
			}
		}
	}
}

func TestByHand(t *testing.T) {
	seed := uint64(11)
	draw := func(below int) int {
		seed = seed*6364136223846793005 + 1442695040888963407
		return int(seed>>33) % below
	}
	s := New(api.Weather{Seed: 11, Lose: 30, Double: 30, Bend: 30, Most: 2})
	l := items(6)
	lost := map[int]int{}
	for n := range 3000 {
		want := tick
		if draw(8) != 0 {
			at := draw(4)
			want = api.Act{What: api.ActDeliver, A: at}
			if draw(100) < 30 && lost[at] < 2 {
				want.What = api.ActLose
				lost[at]++
			} else if draw(100) < 30 && lost[at] < 2 {
				want.What, want.B = api.ActBend, draw(16384)
				lost[at]++
			} else if draw(100) < 30 {
				want.What = api.ActDouble
			} else {
				lost[at] = 0
			}
		}
		if got := s.Next(l); got != want {
			t.Fatalf("%d: %+v, not %+v", n, got, want)
		}
	}
}

func open(t *testing.T) *world.World {
	t.Helper()
	w, err := world.New(api.Topo{Hosts: []api.HostSpec{{Places: []api.Place{{Addr: 1, Nat: -1}}, Key: "a"}, {Places: []api.Place{{Addr: 2, Nat: -1}}, Key: "b"}}})
	if err != api.OK {
		t.Fatal(err)
	}
	w.Do(api.Act{What: api.ActListen, Host: 1, A: 6})
	w.Do(api.Act{What: api.ActConnect, B: 5, C: 1, E: 6, F: 1})
	return w
}

func TestRun(t *testing.T) {
	w, again := open(t), open(t)
	x := api.Weather{Seed: 5, Lose: 20, Double: 20, Bend: 20, Most: 3}
	l := New(x).Run(w, 500)
	if len(l) != 500 || !slices.Equal(l, New(x).Run(open(t), 500)) {
		t.Error("Run")
	}
	for _, a := range l {
		if s := again.Do(a); !s.OK {
			t.Fatalf("%+v: %+v", a, s)
		}
	}
	if again.Now() != w.Now() || !slices.Equal(again.Items(), w.Items()) {
		t.Error("these were done")
	}
	if len(New(x).Run(open(t), -1)) != 0 || len(New(x).Run(open(t), math.MaxInt)) != api.MostStorm {
		t.Error("how many")
	}
}

func TestNil(t *testing.T) {
	var s *Storm
	if s.Draw(9) != 0 || s.Next(items(2)) != tick || s.Run(open(t), 5) != nil || New(api.Weather{}).Run(nil, 5) != nil {
		t.Error("nil")
	}
	var none Storm
	none.weather = api.Weather{Lose: 100, Most: 5}
	for range 20 {
		none.Next(items(1))
	}
}
