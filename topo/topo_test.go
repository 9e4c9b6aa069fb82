package topo

import (
	"math"
	"testing"

	"crossway/api"
)

func hostAt(l ...api.Place) api.HostSpec { return api.HostSpec{Places: l} }

func at(a api.Addr, nat int) api.Place { return api.Place{Addr: a, Nat: nat} }

func some() api.Topo {
	return api.Topo{
		Hosts: []api.HostSpec{hostAt(at(1, 0), at(2, 1)), hostAt(at(1, 1), at(3, -1)), hostAt(at(2, 0))},
		Nats:  []api.NatSpec{{Outer: 100, Most: 256}, {Outer: 200}},
	}
}

func TestCheck(t *testing.T) {
	if Check(some()) != api.OK || Check(api.Topo{Hosts: []api.HostSpec{hostAt(at(1, -1))}}) != api.OK {
		t.Error("those that may be")
	}
	inside := some()
	inside.Hosts[0].Places[0].Addr = 100
	if Check(inside) != api.OK {
		t.Error("an address inside may be one outside, too")
	}
	for n, change := range []func(t *api.Topo){
		func(t *api.Topo) { t.Hosts = nil }, func(t *api.Topo) { t.Hosts[0].Places = nil }, func(t *api.Topo) { t.Hosts[0].Places[0].Addr = 0 }, func(t *api.Topo) { t.Nats[0].Outer = 0 },
		func(t *api.Topo) { t.Nats[1].Outer = 100 }, func(t *api.Topo) { t.Hosts[1].Places[1].Addr = 100 }, func(t *api.Topo) { t.Hosts[2].Places[0].Addr = 1 }, func(t *api.Topo) { t.Hosts[2].Places[0] = at(3, -1) },
		func(t *api.Topo) { t.Hosts[0].Places[1].Addr = 1 }, func(t *api.Topo) { t.Hosts[0].Places[1] = at(1, -1) }, func(t *api.Topo) { t.Hosts[0].Places[0].Nat = 2 }, func(t *api.Topo) { t.Hosts[0].Places[0].Nat = -2 },
		func(t *api.Topo) { t.Nats[0].Most = 257 }, func(t *api.Topo) { t.Nats[0].Most = -1 }, func(t *api.Topo) { t.Hosts[2] = hostAt(at(11, 0), at(12, 0), at(13, 0), at(14, 0), at(15, 0)) },
		func(t *api.Topo) {
			t.Nats = append(t.Nats, api.NatSpec{Outer: 300}, api.NatSpec{Outer: 301}, api.NatSpec{Outer: 302})
		},
		func(t *api.Topo) {
			for n := range 4 {
				t.Hosts = append(t.Hosts, hostAt(at(api.Addr(50+n), -1)))
			}
		},
	} {
		x := some()
		change(&x)
		if Check(x) != api.ErrInput {
			t.Error("one that may not be", n)
		}
	}
	x := some()
	for n := range 3 {
		x.Hosts = append(x.Hosts, hostAt(at(api.Addr(50+n), -1)))
	}
	x.Nats = append(x.Nats, api.NatSpec{Outer: 300}, api.NatSpec{Outer: 301})
	x.Hosts[2] = hostAt(at(11, 0), at(12, 0), at(13, 0), at(14, 0))
	if Check(x) != api.OK {
		t.Error("as many as may be")
	}
}

func TestFinding(t *testing.T) {
	x := some()
	if n, nat := Place(x.Hosts[0], 2); n != 1 || nat != 1 {
		t.Error("Place", n, nat)
	}
	if n, nat := Place(x.Hosts[1], 3); n != 1 || nat != -1 {
		t.Error("Place", n, nat)
	}
	if n, nat := Place(x.Hosts[0], 3); n != -1 || nat != -1 {
		t.Error("Place of none", n, nat)
	}
	if Inside(x, 0, 1) != 0 || Inside(x, 1, 1) != 1 || Inside(x, 0, 2) != 2 || Inside(x, -1, 3) != 1 || Inside(x, -1, 1) != -1 || Inside(x, 7, 1) != -1 || Inside(x, 0, 0) != -1 {
		t.Error("Inside")
	}
	if Nat(x, 100) != 0 || Nat(x, 200) != 1 || Nat(x, 3) != -1 || Nat(x, 0) != -1 {
		t.Error("Nat")
	}
	if Outer(x, 0, 0) != 100 || Outer(x, 0, 1) != 200 || Outer(x, 1, 1) != 3 {
		t.Error("Outer")
	}
	for _, n := range []int{-1, 3, math.MaxInt, math.MinInt} {
		if Outer(x, n, 0) != 0 || Outer(x, 0, n) != 0 {
			t.Error("Outer of none", n)
		}
	}
	x.Hosts[0].Places[0].Nat = 9
	x.Hosts[0].Places[1].Nat = -9
	if Outer(x, 0, 0) != 0 || Outer(x, 0, 1) != 0 {
		t.Error("behind none such")
	}
}
