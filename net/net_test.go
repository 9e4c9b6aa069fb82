package net

import (
	"math"
	"slices"
	"testing"

	"crossway/api"
)

func item(s string) api.Item {
	return api.Item{Leg: api.LegWorld, Nat: 1, D: api.Datagram{From: 1, To: 2, S: s}}
}

func TestPutTake(t *testing.T) {
	n := New()
	for _, s := range []string{"a", "b", "c"} {
		if !n.Put(item(s)) {
			t.Error("Put")
		}
	}
	if !slices.Equal(n.All(), []api.Item{item("a"), item("b"), item("c")}) || n.Len() != 3 {
		t.Error("All")
	}
	for _, at := range []int{-1, 3, math.MaxInt, math.MinInt} {
		if x, ok := n.Take(at); ok || x != (api.Item{}) || n.Double(at) || n.Bend(at, 0) {
			t.Error("there is none", at)
		}
	}
	if x, ok := n.Take(1); !ok || x != item("b") || !slices.Equal(n.All(), []api.Item{item("a"), item("c")}) {
		t.Error("Take")
	}
	l := n.All()
	l[0].Nat = 9
	if n.All()[0].Nat != 1 {
		t.Error("All is the caller's own")
	}
}

func TestFull(t *testing.T) {
	n := New()
	for range api.MostNet {
		if !n.Put(item("a")) {
			t.Fatal("Put")
		}
	}
	if n.Full() != 0 || n.Put(item("b")) || n.Full() != 1 || n.Double(0) || n.Len() != api.MostNet || n.Double(-1) || n.Full() != 1 {
		t.Error("Full")
	}
}

func TestDouble(t *testing.T) {
	n := New()
	n.Put(item("a"))
	n.Put(item("b"))
	n.Bend(0, 0)
	if !n.Double(0) || n.Len() != 3 || n.All()[2] != n.All()[0] || !n.All()[2].Bent {
		t.Error("Double")
	}
	if n.Bend(2, 5) {
		t.Error("bent twice")
	}
}

func TestBend(t *testing.T) {
	for bit, want := range map[int]string{0: "\x01\x00", 7: "\x80\x00", 8: "\x00\x01", 15: "\x00\x80", 16: "\x01\x00", 33: "\x02\x00", -1: "\x00\x80", -16: "\x01\x00", math.MaxInt: "\x00\x80", math.MinInt: "\x01\x00"} {
		n := New()
		n.Put(item("\x00\x00"))
		if !n.Bend(0, bit) || n.All()[0].D.S != want || !n.All()[0].Bent {
			t.Errorf("bit %d: %x", bit, n.All()[0].D.S)
		}
		if n.Bend(0, bit) || n.All()[0].D.S != want {
			t.Error("the second time nothing")
		}
	}
	n := New()
	n.Put(item(""))
	if n.Bend(0, 0) || n.All()[0].Bent {
		t.Error("one that has no bytes")
	}
}

func TestNil(t *testing.T) {
	var n *Net
	if _, ok := n.Take(0); ok || n.Put(item("a")) || n.Double(0) || n.Bend(0, 0) || n.Len() != 0 || n.Full() != 0 || n.All() != nil {
		t.Error("nil")
	}
}
