package paths

import (
	"math"
	"slices"
	"testing"

	"crossway/api"
	"crossway/path"
)

func of(many int) *Paths {
	p := New(1, 101)
	for n := 1; n < many; n++ {
		p.Add(api.Addr(n+1), api.Addr(n+101))
	}
	return p
}

func state(p *Paths, n, s int) {
	x := p.At(n)
	x.State = s
	p.Set(n, x)
}

func TestAdd(t *testing.T) {
	p := New(1, 101)
	if l := p.All(); len(l) != 1 || l[0] != path.New(1, 101) || p.First() != 0 {
		t.Error("New")
	}
	if p.Add(1, 101) != 0 || p.Add(2, 101) != 1 || p.Add(1, 102) != 2 || p.Add(2, 101) != 1 || len(p.All()) != 3 {
		t.Error("Add")
	}
	if p.Find(1, 102) != 2 || p.Find(2, 102) != -1 || p.Peer(101) != 0 || p.Peer(102) != 2 || p.Peer(103) != -1 {
		t.Error("Find, Peer")
	}
	q := of(api.MostPaths)
	if len(q.All()) != 8 || q.Add(99, 99) != -1 || q.Add(8, 108) != 7 || len(q.All()) != 8 {
		t.Error("too many")
	}
	l := q.All()
	l[0].Local = 77
	if q.At(0).Local != 1 {
		t.Error("All is the caller's own")
	}
}

func TestSet(t *testing.T) {
	p := of(2)
	x := path.Good(p.At(1))
	if !p.Set(1, x) || p.At(1) != x || p.Set(0, x) || p.At(0) != path.New(1, 101) {
		t.Error("Set")
	}
	for _, n := range []int{-1, 2, math.MaxInt, math.MinInt} {
		if p.Set(n, x) || p.At(n) != (api.Path{}) || p.Choose(n) {
			t.Error("no such place", n)
		}
	}
}

func TestDrop(t *testing.T) {
	made := func() *Paths {
		p := New(1, 101)
		p.Add(2, 101)
		p.Add(1, 102)
		p.Add(2, 102)
		p.Choose(2)
		return p
	}
	for _, c := range []struct {
		local, peer api.Addr
		keep        int
		left        []int
		first       int
	}{
		{1, 0, -1, []int{1, 3}, 0}, {2, 0, -1, []int{0, 2}, 1}, {0, 101, -1, []int{2, 3}, 0}, {0, 101, 1, []int{1, 2, 3}, 1},
		{1, 102, -1, []int{0, 1, 3}, 0}, {9, 0, -1, []int{0, 1, 2, 3}, 2}, {0, 0, 3, []int{3}, 0}, {0, 0, -1, []int{2}, 0}, {0, 0, 9, []int{2}, 0},
	} {
		p := made()
		before := p.All()
		left := p.Drop(c.local, c.peer, c.keep)
		if !slices.Equal(left, c.left) || p.First() != c.first {
			t.Errorf("%+v: %v, first %d", c, left, p.First())
		}
		for n, was := range left {
			if p.At(n) != before[was] {
				t.Errorf("%+v: place %d", c, n)
			}
		}
		if len(p.All()) != len(left) {
			t.Errorf("%+v: how many", c)
		}
	}
}

func TestUse(t *testing.T) {
	p := of(4)
	if p.Use() != 0 || !p.Choose(2) || p.First() != 2 || p.Use() != 2 {
		t.Error("the first one")
	}
	state(p, 2, api.PathDown)
	if p.Use() != 3 {
		t.Error("the next one that is new")
	}
	state(p, 1, api.PathActive)
	if p.Use() != 1 {
		t.Error("the next one that is active, round")
	}
	state(p, 0, api.PathActive)
	if p.Use() != 0 || p.Other(2) != 0 || p.Other(0) != 1 || p.Other(1) != 0 {
		t.Error("the next one behind it")
	}
	for n := range 4 {
		state(p, n, api.PathDown)
	}
	if p.Use() != 2 || p.Other(1) != 1 || p.Alive() {
		t.Error("all are down")
	}
	state(p, 3, api.PathNew)
	if !p.Alive() || p.Use() != 3 || p.Other(2) != 2 || p.Other(9) != 9 || p.Other(-3) != -3 {
		t.Error("one is not")
	}
	one := of(1)
	state(one, 0, api.PathActive)
	if one.Other(0) != 0 {
		t.Error("Other of one")
	}
}

func TestExample(t *testing.T) {
	p := of(2)
	state(p, 0, api.PathDown)
	if p.Use() != 1 {
		t.Error("of two, with the first one down")
	}
}

func TestNil(t *testing.T) {
	var p *Paths
	if p.All() != nil || p.First() != -1 || p.Find(1, 2) != -1 || p.Peer(1) != -1 || p.Add(1, 2) != -1 || p.At(0) != (api.Path{}) || p.Set(0, api.Path{}) || p.Drop(0, 0, 0) != nil || p.Choose(0) || p.Use() != -1 || p.Other(0) != -1 || p.Alive() {
		t.Error("nil")
	}
}
