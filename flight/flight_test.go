package flight

import (
	"math"
	"reflect"
	"slices"
	"testing"

	"crossway/api"
)

func data(s string) api.Chunk { return api.Chunk{Flags: 3, Data: s} }

// of is chunks behind 99 of 1, 2, 3 .. bytes, one at each path and time that is told.
func of(paths ...int) *Flight {
	f := New(99)
	for n, p := range paths {
		f.Add(data("123456789"[:n+1]), p, 10*n)
	}
	return f
}

func gap(l ...int) []api.Gap {
	var g []api.Gap
	for n := 0; n < len(l); n += 2 {
		g = append(g, api.Gap{From: l[n], To: l[n+1]})
	}
	return g
}

func TestAdd(t *testing.T) {
	f := New(1<<32 - 2)
	if f.Cum() != 1<<32-2 || f.Next() != 1<<32-1 || f.Len() != 0 {
		t.Error("New")
	}
	if c := f.Add(data("ab"), 1, 5); c.Tsn != 1<<32-1 || c.Data != "ab" || c.Flags != 3 {
		t.Errorf("Add %+v", c)
	}
	if c := f.Add(data("c"), 0, 6); c.Tsn != 0 || f.Next() != 1 || f.Len() != 2 {
		t.Errorf("Add %+v", c)
	}
	want := []api.Sent{{Chunk: api.Chunk{Flags: 3, Tsn: 1<<32 - 1, Data: "ab"}, Path: 1, At: 5, Times: 1}, {Chunk: api.Chunk{Flags: 3, Data: "c"}, At: 6, Times: 1}}
	l := f.All()
	if !reflect.DeepEqual(l, want) || f.Bytes() != 3 || f.Held() != 3 || f.On(0) != 1 || f.On(1) != 2 || f.On(2) != 0 {
		t.Errorf("All %+v", l)
	}
	l[0].Path = 7
	if f.On(7) != 0 {
		t.Error("All is the caller's own")
	}
}

func TestSackCum(t *testing.T) {
	f := of(0, 1, 0, 1)
	a := f.Sack(101, nil, 2, 50)
	if !reflect.DeepEqual(a, api.Acked{More: true, Came: []int{1, 2}, Took: []int{50, 40}, Lost: []bool{false, false}}) || f.Cum() != 101 || f.Len() != 2 || f.Next() != 104 {
		t.Errorf("%+v", a)
	}
	nothing := api.Acked{Came: []int{0, 0}, Took: []int{-1, -1}, Lost: []bool{false, false}}
	for _, cum := range []uint32{100, 104, 0, 101 + 1<<31, 1<<32 - 1} {
		if a := f.Sack(cum, gap(2, 2), 2, 50); !reflect.DeepEqual(a, nothing) || f.Cum() != 101 || f.Len() != 2 || f.Bytes() != 7 {
			t.Errorf("cum %d: %+v", cum, a)
		}
	}
	if a := f.Sack(101, nil, 2, 50); !reflect.DeepEqual(a, nothing) {
		t.Errorf("the same one: %+v", a)
	}
	if a := f.Sack(103, nil, 2, 50); !a.More || f.Len() != 0 || f.Bytes() != 0 || !reflect.DeepEqual(a.Came, []int{3, 4}) {
		t.Errorf("all: %+v", a)
	}
}

// Times may be so far apart that their difference goes round.
func TestTookFarApart(t *testing.T) {
	for _, x := range []struct{ at, now, took int }{{-5, math.MaxInt, math.MaxInt}, {math.MinInt, math.MaxInt, math.MaxInt}, {math.MinInt, 0, math.MaxInt}, {math.MinInt, -1, math.MaxInt}, {0, math.MaxInt, math.MaxInt}, {7, 9, 2}} {
		f := New(0)
		f.Add(data("a"), 0, x.at)
		if a := f.Sack(1, nil, 1, x.now); a.Took[0] != x.took {
			t.Errorf("sent at %d, came at %d: %d", x.at, x.now, a.Took[0])
		}
	}
	f := New(0)
	f.Add(data("a"), 0, math.MaxInt)
	if a := f.Sack(1, nil, 1, math.MinInt); a.Took[0] >= 0 {
		t.Error("it came ahead of when it was sent", a.Took)
	}
}

func TestSackGaps(t *testing.T) {
	f := of(0, 0, 1, 1)
	a := f.Sack(100, gap(2, 2), 2, 60)
	if !reflect.DeepEqual(a, api.Acked{More: true, Came: []int{1, 3}, Took: []int{60, 40}, Lost: []bool{false, false}}) || f.Bytes() != 6 || f.Held() != 9 || f.On(0) != 2 || f.On(1) != 4 {
		t.Errorf("%+v %+v", a, f.All())
	}
	if a := f.Sack(100, gap(2, 2, 3, 900), 2, 60); a.More || !reflect.DeepEqual(a.Came, []int{0, 4}) || !reflect.DeepEqual(a.Took, []int{-1, 30}) {
		t.Errorf("those that came already do not count: %+v", a)
	}
	if a := f.Sack(103, nil, 2, 60); !reflect.DeepEqual(a.Came, []int{2, 0}) || f.Len() != 0 {
		t.Errorf("the last one: %+v", a)
	}
	f = of(0)
	for _, g := range [][]api.Gap{gap(5, 2), gap(-9, -1), gap(0, 0), gap(2, math.MaxInt), gap(math.MinInt, 0)} {
		if a := f.Sack(99, g, 1, 0); a.Came[0] != 0 || f.Bytes() != 1 {
			t.Error("a gap of nothing", g)
		}
	}
}

func TestMissed(t *testing.T) {
	f := of(0, 1, 0, 0, 0)
	for n := 1; n <= 3; n++ {
		a := f.Sack(99, gap(3, 3+n-1), 2, 9)
		l := f.All()
		if l[0].Missed != n || l[1].Missed != n || l[4].Missed != 0 || l[0].Again != (n == 3) || !slices.Equal(a.Lost, []bool{n == 3, n == 3}) {
			t.Errorf("missed %d times: %+v", n, l)
		}
	}
	if n, ok := f.Peek(); !ok || n != 1 || f.On(0) != 0 || f.On(1) != 0 || f.Bytes() != 3 {
		t.Error("to be sent again")
	}
	if c, ok := f.Again(1, 77); !ok || c.Tsn != 100 || f.On(1) != 1 {
		t.Error("Again", c)
	}
	if x := f.All()[0]; x.Path != 1 || x.At != 77 || x.Times != 2 || x.Again || !x.Fast {
		t.Errorf("sent again: %+v", x)
	}
	for range 5 {
		if a := f.Sack(99, gap(3, 5), 2, 9); a.Lost[0] || a.Lost[1] || f.All()[0].Again {
			t.Error("at once just once")
		}
	}
	if a := f.Sack(100, gap(2, 4), 2, 99); a.Took[1] != -1 || a.Came[1] != 1 {
		t.Errorf("what was sent twice measures nothing: %+v", a)
	}
}

func TestMissedJustAhead(t *testing.T) {
	f := of(0, 0, 0)
	for range 5 {
		f.Sack(99, gap(1, 1), 1, 0)
		f.Sack(99, gap(2, 2), 1, 0)
	}
	if l := f.All(); l[0].Missed != 0 || l[2].Missed != 0 || l[2].Again {
		t.Errorf("none is missed behind the last gap: %+v", l)
	}
}

func TestLate(t *testing.T) {
	f := of(0, 1, 0)
	f.Sack(99, gap(3, 3), 2, 0)
	if at, ok := f.Oldest(0); !ok || at != 0 {
		t.Error("Oldest", at)
	}
	if at, ok := f.Oldest(1); !ok || at != 10 {
		t.Error("Oldest", at)
	}
	if !f.Late(0) || f.Late(2) {
		t.Error("Late")
	}
	l := f.All()
	if !l[0].Again || l[0].Missed != 0 || l[1].Again || l[1].Missed != 1 || l[2].Again {
		t.Errorf("Late %+v", l)
	}
	if at, ok := f.Oldest(0); ok || at != 0 {
		t.Error("Oldest of none")
	}
	f.Again(2, 44)
	if at, ok := f.Oldest(2); !ok || at != 44 {
		t.Error("Oldest of one that was sent again")
	}
	if c, ok := f.Again(2, 44); ok || !reflect.DeepEqual(c, api.Chunk{}) {
		t.Error("Again of none")
	}
	if n, ok := f.Peek(); ok || n != 0 {
		t.Error("Peek of none")
	}
	f.Late(2)
	if f.Sack(99, gap(1, 1), 3, 50); f.All()[0].Again {
		t.Error("what came is not to be sent again")
	}
}

func TestMoved(t *testing.T) {
	f := of(0, 1, 2, 1)
	f.Sack(99, gap(4, 4), 3, 0)
	f.Moved([]int{2, 0})
	l := f.All()
	if l[0].Path != 1 || l[0].Again || l[1].Path != 0 || !l[1].Again || l[2].Path != 0 || l[2].Again || l[3].Path != 0 || l[3].Again || !l[3].Came {
		t.Errorf("Moved %+v", l)
	}
	f.Moved(nil)
	if l := f.All(); !l[0].Again || !l[2].Again || l[0].Path != 0 {
		t.Errorf("Moved to none %+v", l)
	}
}

func TestPathsBeyond(t *testing.T) {
	f := of(5, -1, 0)
	a := f.Sack(102, nil, 1, 30)
	if !reflect.DeepEqual(a, api.Acked{More: true, Came: []int{3}, Took: []int{10}, Lost: []bool{false}}) {
		t.Errorf("%+v", a)
	}
	for _, many := range []int{-1, 0, math.MinInt} {
		if a := New(0).Sack(0, nil, many, 0); len(a.Came)+len(a.Took)+len(a.Lost) != 0 {
			t.Error("no paths")
		}
	}
	f = of(7, 0)
	for range 4 {
		f.Sack(99, gap(2, 2), 1, 0)
	}
	if !f.All()[0].Again {
		t.Error("lost on a path beyond")
	}
	New(0).Sack(0, nil, math.MaxInt, 0)
}

func TestNil(t *testing.T) {
	var f *Flight
	f.Moved([]int{1})
	a := f.Sack(1, gap(2, 2), 2, 5)
	if !reflect.DeepEqual(a, api.Acked{Came: []int{0, 0}, Took: []int{-1, -1}, Lost: []bool{false, false}}) {
		t.Errorf("Sack of nil %+v", a)
	}
	_, oldest := f.Oldest(0)
	_, peek := f.Peek()
	_, again := f.Again(0, 0)
	if oldest || peek || again || f.Late(0) || f.Cum() != 0 || f.All() != nil || f.Len() != 0 || f.Bytes() != 0 || f.On(0) != 0 || f.Held() != 0 || f.Next() != 0 || !reflect.DeepEqual(f.Add(data("x"), 0, 0), api.Chunk{}) {
		t.Error("nil")
	}
}
