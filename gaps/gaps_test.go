package gaps

import (
	"slices"
	"testing"

	"crossway/api"
)

func TestExample(t *testing.T) {
	g := New(0)
	for _, n := range []uint32{1, 3, 4} {
		if g.Look(n) != api.GotNew || g.Add(n) != api.GotNew {
			t.Error("new", n)
		}
	}
	if g.Cum() != 1 || !slices.Equal(g.Gaps(), []api.Gap{{From: 2, To: 3}}) || g.Whole() {
		t.Errorf("1, 3, 4: %d %v", g.Cum(), g.Gaps())
	}
	if g.Add(2) != api.GotNew || g.Cum() != 4 || !g.Whole() || len(g.Gaps()) != 0 {
		t.Error("the one that was missing")
	}
}

func TestLook(t *testing.T) {
	g := New(1<<32 - 5)
	if g.Look(1<<32-5) != api.GotTwice || g.Look(1<<32-6) != api.GotTwice || g.Look(0) != api.GotNew || g.Look(api.Window-5) != api.GotNew || g.Look(api.Window-4) != api.GotFar {
		t.Error("Look")
	}
	g.Add(0)
	if g.Look(0) != api.GotTwice || g.Look(1) != api.GotNew || g.Look(1<<31-6) != api.GotFar || g.Look(1<<31-5) != api.GotFar || g.Look(1<<31-4) != api.GotTwice {
		t.Error("Look, numbers go round")
	}
	if g.Add(5000) != api.GotFar || g.Look(5000) != api.GotFar || len(g.Gaps()) != 1 || len(g.Dups()) != 0 {
		t.Error("too far")
	}
}

func TestDups(t *testing.T) {
	g := New(10)
	g.Add(12)
	if g.Add(12) != api.GotTwice || g.Add(10) != api.GotTwice || g.Look(9) != api.GotTwice {
		t.Error("twice")
	}
	if !slices.Equal(g.Dups(), []uint32{12, 10}) || len(g.Dups()) != 0 {
		t.Error("Dups")
	}
	for range 40 {
		g.Add(1)
	}
	if len(g.Dups()) != api.MostDups || g.Add(1) != api.GotTwice || len(g.Dups()) != 1 {
		t.Error("as many as may be")
	}
}

func TestManyGaps(t *testing.T) {
	g := New(100)
	for n := uint32(60); n > 1; n -= 2 {
		g.Add(100 + n)
	}
	l := g.Gaps()
	if len(l) != api.MostGaps || l[0] != (api.Gap{From: 2, To: 2}) || l[15] != (api.Gap{From: 32, To: 32}) {
		t.Errorf("the first ones: %v", l)
	}
	l[0].From = 9
	if g.Gaps()[0].From != 2 {
		t.Error("Gaps are the caller's own")
	}
	for n := uint32(1); n < 60; n += 2 {
		g.Add(100 + n)
	}
	if g.Cum() != 160 || !g.Whole() {
		t.Error("all came", g.Cum())
	}
}

func TestAnyOrder(t *testing.T) {
	seed := uint32(7)
	for range 200 {
		g := New(1<<32 - 20)
		came := map[uint32]bool{}
		for range 60 {
			seed = seed*1664525 + 1013904223
			n := 1<<32 - 25 + seed>>26
			want := api.GotNew
			if came[n] || n-(1<<32-25) <= 5 {
				want = api.GotTwice
			}
			if got := g.Add(n); got != want {
				t.Fatalf("%d: %d, not %d", n, got, want)
			}
			came[n] = true
		}
		cum := uint32(1<<32 - 20)
		for came[cum+1] {
			cum++
		}
		if g.Cum() != cum {
			t.Fatal("Cum", g.Cum(), cum)
		}
		for _, gap := range g.Gaps() {
			for n := gap.From - 1; n <= gap.To+1; n++ {
				if came[cum+uint32(n)] != (n >= gap.From && n <= gap.To) {
					t.Fatal("gap", gap)
				}
			}
		}
	}
}

func TestNil(t *testing.T) {
	var g *Got
	if g.Look(1) != api.GotFar || g.Add(1) != api.GotFar || g.Cum() != 0 || g.Gaps() != nil || g.Dups() != nil || g.Whole() {
		t.Error("nil")
	}
}
