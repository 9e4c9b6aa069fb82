package plan

import (
	"math"
	"strings"
	"testing"

	"crossway/api"
	"crossway/assoc"
	"crossway/model"
	"crossway/world"
)

func TestChunks(t *testing.T) {
	for _, c := range [][3]int{{0, 0, 0}, {199, 0, 0}, {200, 0, 1}, {450, 3, 5}, {-5, 2, 2}, {400, -7, 2}, {math.MinInt, math.MinInt, 0}} {
		if Chunks(c[0], c[1]) != c[2] {
			t.Error(c, Chunks(c[0], c[1]))
		}
	}
}

func TestRounds(t *testing.T) {
	a := assoc.Open(api.Setup{Mine: 1, Yours: 2, Local: 1, Peer: 2, MyPort: 5, PeerPort: 6, Out: 1, In: 1}, 0)
	if Rounds(a) != 2130 || Rounds(nil) != 1740 {
		t.Error("Rounds", Rounds(a), Rounds(nil))
	}
	a.Send(api.Message{Data: strings.Repeat("x", 1000)}, 0)
	if Rounds(a) != 2130+5*240 {
		t.Error("what is left", Rounds(a))
	}
	a.Ask(api.Ask{What: api.ParamAdd, Local: 7}, 0)
	if Rounds(a) != 2130+5*240+390 {
		t.Error("paths", Rounds(a))
	}
}

// TestEnough is promise 39.2: behind so many calm rounds all came, whatever was lost ahead.
func TestEnough(t *testing.T) {
	x := api.Topo{
		Hosts: []api.HostSpec{{Places: []api.Place{{Addr: 1, Nat: 0}}, Key: "a"}, {Places: []api.Place{{Addr: 2, Nat: -1}}, Key: "b"}},
		Nats:  []api.NatSpec{{Outer: 100, Most: 9}},
	}
	for lost := range 40 {
		w, _ := world.New(x)
		w.Do(api.Act{What: api.ActListen, Host: 1, A: 6})
		w.Do(api.Act{What: api.ActConnect, B: 5, C: 1, E: 6, F: 1})
		w.Calm(9)
		m := model.New()
		for _, host := range []int{0, 1, 0, 1} {
			a := api.Act{What: api.ActSend, Host: host, S: strings.Repeat("x", 2900)}
			m.Note(a, w.Do(a))
		}
		for range lost {
			w.Do(api.Act{What: api.ActLose})
			w.Do(api.Act{What: api.ActTick, A: 2})
		}
		w.Do(api.Act{What: api.ActReboot})
		rounds := max(Rounds(w.Assoc(0, 0)), Rounds(w.Assoc(1, 0)))
		for range rounds {
			w.Calm(1)
			for host := range 2 {
				a := api.Act{What: api.ActRead, Host: host}
				m.Note(a, w.Do(a))
			}
		}
		for host := range 2 {
			k := api.End{Host: host}
			if w.Assoc(host, 0).State() != api.StateOpen || m.Missing(w, k) != 0 || w.Assoc(host, 0).Left() != 0 || m.Wrong(w) != 0 {
				t.Errorf("%d were lost: host %d, state %d, left %d, missing %d", lost, host, w.Assoc(host, 0).State(), w.Assoc(host, 0).Left(), m.Missing(w, k))
			}
		}
	}
}
