package nattab

import (
	"math"
	"slices"
	"testing"

	"crossway/api"
)

func entry(inner api.Addr, in, out uint32) api.Entry {
	return api.Entry{Inner: inner, Port: 5, Peer: 9, PeerPort: 6, In: in, Out: out, Seen: 1}
}

func TestAdd(t *testing.T) {
	tab := New(2)
	if tab.Add(entry(1, 0, 3)) != api.ErrInput || tab.Len() != 0 {
		t.Error("a tag that is 0")
	}
	if tab.Add(entry(1, 7, 0)) != api.OK || tab.Add(entry(2, 7, 0)) != api.ErrClash || tab.Len() != 1 {
		t.Error("two of one key")
	}
	again := entry(1, 7, 8)
	again.Seen = 50
	if tab.Add(again) != api.OK || tab.Len() != 1 || tab.At(0) != again {
		t.Error("one that is there")
	}
	again.Out, again.Seen = 0, 60
	if tab.Add(again) != api.OK || tab.At(0).Out != 8 || tab.At(0).Seen != 60 {
		t.Error("a tag that is known stays")
	}
	if tab.Add(entry(2, 8, 0)) != api.OK || tab.Add(entry(3, 9, 0)) != api.ErrFull || tab.Add(entry(1, 7, 0)) != api.OK || tab.Add(entry(3, 8, 0)) != api.ErrClash {
		t.Error("a full table")
	}
	for _, change := range []func(e *api.Entry){func(e *api.Entry) { e.Peer++ }, func(e *api.Entry) { e.PeerPort++ }, func(e *api.Entry) { e.Port++ }, func(e *api.Entry) { e.In++ }} {
		tab := New(5)
		tab.Add(entry(1, 7, 0))
		e := entry(2, 7, 0)
		change(&e)
		if tab.Add(e) != api.OK || tab.Len() != 2 {
			t.Error("another key")
		}
	}
}

func TestNewWithin(t *testing.T) {
	for most, want := range map[int]int{-5: 0, 0: 0, 1: 1, 256: 256, 257: 256, math.MaxInt: 256} {
		tab := New(most)
		for n := range 300 {
			tab.Add(entry(1, uint32(n+1), 0))
		}
		if tab.Len() != want {
			t.Errorf("New(%d): %d", most, tab.Len())
		}
	}
}

func TestFinding(t *testing.T) {
	tab := New(9)
	tab.Add(entry(1, 7, 0))
	tab.Add(entry(2, 8, 17))
	tab.Add(entry(1, 9, 18))
	if tab.Inward(entry(0, 8, 0), false) != 1 || tab.Inward(entry(0, 10, 0), false) != -1 || tab.Inward(entry(0, 17, 0), false) != -1 {
		t.Error("Inward")
	}
	if tab.Inward(entry(0, 0, 18), true) != 2 || tab.Inward(entry(0, 0, 0), true) != -1 || tab.Inward(entry(0, 9, 0), true) != -1 {
		t.Error("Inward, mirrored")
	}
	if tab.Outward(entry(2, 0, 17), false) != 1 || tab.Outward(entry(1, 0, 17), false) != -1 || tab.Outward(entry(1, 0, 0), false) != -1 {
		t.Error("Outward")
	}
	if tab.Outward(entry(1, 9, 0), true) != 2 || tab.Outward(entry(2, 9, 0), true) != -1 || tab.Outward(entry(1, 7, 0), true) != 0 {
		t.Error("Outward, mirrored")
	}
	other := entry(1, 7, 0)
	other.Port++
	if tab.Inward(other, false) != -1 || tab.Outward(other, true) != -1 || tab.Ports(other) {
		t.Error("other ports")
	}
	if !tab.Ports(entry(3, 0, 0)) || !tab.Ports(entry(1, 0, 0)) {
		t.Error("Ports")
	}
	alone := New(1)
	alone.Add(entry(1, 7, 0))
	if alone.Ports(entry(1, 8, 0)) || !alone.Ports(entry(2, 8, 0)) {
		t.Error("Ports of one")
	}
}

func TestPlaces(t *testing.T) {
	tab := New(9)
	tab.Add(entry(1, 7, 0))
	for _, n := range []int{-1, 1, math.MaxInt, math.MinInt} {
		tab.Touch(n, 5)
		tab.Learn(n, 5)
		if tab.At(n) != (api.Entry{}) {
			t.Error("At", n)
		}
	}
	if tab.At(0) != entry(1, 7, 0) {
		t.Error("other places changed it")
	}
	tab.Touch(0, 44)
	tab.Learn(0, 55)
	if e := tab.At(0); e.Seen != 44 || e.Out != 55 {
		t.Error("Touch, Learn")
	}
	l := tab.All()
	l[0].In = 99
	if tab.At(0).In != 7 {
		t.Error("All is the caller's own")
	}
}

func TestExpire(t *testing.T) {
	tab := New(9)
	for n, seen := range []int{10, 20, 30} {
		tab.Add(entry(1, uint32(n+1), 0))
		tab.Touch(n, seen)
	}
	if tab.Expire(110, 90) != 1 || tab.Len() != 2 || tab.At(0).Seen != 20 {
		t.Error("Expire")
	}
	if tab.Expire(110, 90) != 0 || tab.Expire(111, 90) != 1 || tab.Expire(0, 0) != 0 || tab.Expire(0, math.MinInt) != 1 {
		t.Error("Expire at the edges")
	}
	tab.Add(entry(1, 1, 0))
	tab.Touch(0, math.MinInt)
	if tab.Expire(math.MaxInt, math.MaxInt-1) != 1 {
		t.Error("Expire of very long ago")
	}
	for n, seen := range []int{-1, math.MinInt, 0, 5} {
		tab.Add(entry(1, 1, 0))
		tab.Touch(0, seen)
		if gone := tab.Expire(math.MaxInt, math.MaxInt); gone != 0 != (seen < 0) {
			t.Error("Expire of longer ago than any number", n)
		}
		tab.Wipe()
	}
	tab.Add(entry(1, 1, 0))
	tab.Touch(0, 2)
	if tab.Expire(math.MinInt, 0) != 0 || tab.Expire(math.MinInt, math.MinInt) != 0 || tab.Expire(math.MinInt+2, math.MinInt) != 0 || tab.Expire(math.MinInt+3, math.MinInt) != 1 {
		t.Error("Expire ahead of when it was seen")
	}
	tab.Add(entry(1, 1, 0))
	tab.Wipe()
	if tab.Len() != 0 || len(tab.All()) != 0 {
		t.Error("Wipe")
	}
}

func TestNil(t *testing.T) {
	var tab *Table
	tab.Wipe()
	tab.Touch(0, 1)
	tab.Learn(0, 1)
	if tab.Add(entry(1, 1, 1)) != api.ErrInput || tab.Len() != 0 || tab.All() != nil || tab.Ports(entry(1, 1, 1)) || tab.Inward(entry(1, 1, 1), false) != -1 || tab.Outward(entry(1, 1, 1), true) != -1 || tab.At(0) != (api.Entry{}) || tab.Expire(5, 1) != 0 {
		t.Error("nil")
	}
	if !slices.Equal(tab.All(), New(3).All()) {
		t.Error("nil and empty")
	}
}
