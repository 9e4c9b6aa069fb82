package audit

import (
	"testing"

	"crossway/api"
	"crossway/assoc"
	"crossway/path"
	"crossway/world"
)

func entry(inner api.Addr, in uint32) api.Entry {
	return api.Entry{Inner: inner, Port: 5, Peer: 9, PeerPort: 6, In: in, Out: 70 + in}
}

func TestTable(t *testing.T) {
	l := []api.Entry{entry(1, 1), entry(1, 2)}
	if Table(l, 2) != 0 || Table(nil, 0) != 0 || Table(l, 1) != api.AuditTable || Table(append(l, entry(2, 1)), 3) != api.AuditKeys || Table(append(l, entry(1, 1)), 2) != api.AuditKeys|api.AuditTable {
		t.Error("Table")
	}
	for _, change := range []func(e *api.Entry){func(e *api.Entry) { e.Peer++ }, func(e *api.Entry) { e.PeerPort++ }, func(e *api.Entry) { e.Port++ }, func(e *api.Entry) { e.In++ }} {
		e := entry(1, 2)
		change(&e)
		if Table(append(l, e), 9) != 0 {
			t.Error("another key")
		}
	}
}

func setup() api.Setup {
	return api.Setup{Mine: 1, Yours: 2, Local: 1, Peer: 2, MyPort: 5, PeerPort: 6, Out: 1, In: 1}
}

func TestAssoc(t *testing.T) {
	if Assoc(nil) != 0 || Assoc(assoc.New(setup(), 0)) != 0 || Assoc(assoc.Open(setup(), 0)) != 0 {
		t.Error("nothing is wrong")
	}
	for n, c := range []struct {
		change func(s *api.Setup)
		want   int
	}{
		{func(s *api.Setup) { s.Mine = 0 }, api.AuditTags}, {func(s *api.Setup) { s.Yours = 0 }, api.AuditTags},
		{func(s *api.Setup) { s.Local = 0 }, api.AuditPaths}, {func(s *api.Setup) { s.Peer, s.Yours = 0, 0 }, api.AuditPaths | api.AuditTags},
	} {
		s := setup()
		c.change(&s)
		if got := Assoc(assoc.Open(s, 0)); got != c.want {
			t.Errorf("%d: %d", n, got)
		}
	}
	s := setup()
	s.Yours = 0
	if Assoc(assoc.New(s, 0)) != 0 {
		t.Error("one that asks knows no other tag")
	}
}

func TestPaths(t *testing.T) {
	l := []api.Path{path.New(1, 2), path.New(1, 3)}
	if !pathsMay(l, 0) || !pathsMay(l, 1) || pathsMay(l, 2) || pathsMay(l, -1) || pathsMay(nil, 0) || pathsMay(append(l, path.New(1, 2)), 0) {
		t.Error("places")
	}
	for n := range 9 {
		var l []api.Path
		for k := range n {
			l = append(l, path.New(1, api.Addr(k+1)))
		}
		if pathsMay(l, 0) != (n >= 1 && n <= api.MostPaths) {
			t.Error("how many", n)
		}
	}
	for n, change := range []func(x *api.Path){
		func(x *api.Path) { x.Local = 0 }, func(x *api.Path) { x.Peer = 0 }, func(x *api.Path) { x.State = 3 }, func(x *api.Path) { x.State = -1 }, func(x *api.Path) { x.Errors = 6 }, func(x *api.Path) { x.Errors = -1 },
		func(x *api.Path) { x.Rto.Wait = 9 }, func(x *api.Path) { x.Rto.Wait = 241 }, func(x *api.Path) { x.Rto.Mean = 241 }, func(x *api.Path) { x.Rto.Mean = -1 }, func(x *api.Path) { x.Cwnd = 599 }, func(x *api.Path) { x.Cwnd = 60001 },
		func(x *api.Path) { x.Ssthresh = 2399 }, func(x *api.Path) { x.Ssthresh = 60001 }, func(x *api.Path) { x.Flight = -1 }, func(x *api.Path) { x.Flight = 6001 }, func(x *api.Path) { x.Rto.Var = -1 },
	} {
		x := path.New(1, 2)
		change(&x)
		if pathMay(x) {
			t.Error("beyond limits", n)
		}
	}
}

func TestWorld(t *testing.T) {
	x := api.Topo{
		Hosts: []api.HostSpec{{Places: []api.Place{{Addr: 1, Nat: 0}}, Key: "a"}, {Places: []api.Place{{Addr: 2, Nat: -1}}, Key: "b"}},
		Nats:  []api.NatSpec{{Outer: 100, Most: 2}},
	}
	w, _ := world.New(x)
	if World(w, x) != 0 || World(nil, x) != 0 {
		t.Error("a new world")
	}
	w.Do(api.Act{What: api.ActListen, Host: 1, A: 6})
	w.Do(api.Act{What: api.ActConnect, B: 5, C: 1, E: 6, F: 1})
	w.Do(api.Act{What: api.ActConnect, B: 6, C: 1, E: 6, F: 1})
	w.Calm(9)
	if World(w, x) != 0 {
		t.Error("two that are open", World(w, x))
	}
	x.Nats[0].Most = 1
	if World(w, x) != api.AuditTable || World(w, api.Topo{}) != api.AuditTable {
		t.Error("more entries than there is room for")
	}
}

func TestOwner(t *testing.T) {
	l := []api.Entry{entry(1, 1), entry(2, 2), {Inner: 3, Port: 5, Peer: 9, PeerPort: 6}}
	p := api.Packet{From: 6, To: 5, Tag: 2}
	if !Owner(l, 2, 9, p, false) || Owner(l, 1, 9, p, false) || Owner(l, 2, 8, p, false) || Owner(l, 2, 9, p, true) || Owner(nil, 2, 9, p, false) {
		t.Error("Owner")
	}
	p.Tag = 72
	if !Owner(l, 2, 9, p, true) || Owner(l, 2, 9, p, false) {
		t.Error("mirrored")
	}
	p.From = 5
	if Owner(l, 2, 9, p, true) {
		t.Error("other ports")
	}
	none := api.Packet{From: 6, To: 5}
	if Owner(l, 3, 9, none, false) || Owner(l, 3, 9, none, true) {
		t.Error("a tag that is 0")
	}
}
