package model

import (
	"slices"
	"testing"

	"crossway/api"
	"crossway/world"
)

func place(a api.Addr) []api.Place { return []api.Place{{Addr: a, Nat: -1}} }

func open(t *testing.T) *world.World {
	t.Helper()
	w, err := world.New(api.Topo{Hosts: []api.HostSpec{{Places: place(1), Key: "a"}, {Places: place(2), Key: "b"}, {Places: place(3), Key: "c"}}})
	if err != api.OK {
		t.Fatal(err)
	}
	w.Do(api.Act{What: api.ActListen, Host: 1, A: 6})
	w.Do(api.Act{What: api.ActConnect, B: 5, C: 1, E: 6, F: 3})
	w.Do(api.Act{What: api.ActConnect, Host: 2, B: 5, C: 1, E: 6, F: 3})
	w.Do(api.Act{What: api.ActConnect, Host: 2, B: 6, C: 1, E: 7, F: 3})
	w.Calm(5)
	return w
}

// order is messages in order of stream 0; bunch is loose ones.
func order(l ...string) []api.Message {
	var x []api.Message
	for n, s := range l {
		x = append(x, api.Message{Data: s, Ssn: n})
	}
	return x
}

func bunch(l ...string) []api.Message {
	x := order(l...)
	for n := range x {
		x[n].Loose, x[n].Ssn = true, 0
	}
	return x
}

func TestHeld(t *testing.T) {
	for n, c := range []struct {
		sent, read []api.Message
		want       int
	}{
		{nil, nil, 0}, {order("a", "b"), order("a"), 0}, {order("a", "b"), order("a", "b"), 0}, {order("a", "b"), nil, 0},
		{order("a", "b"), order("b"), api.WrongOrder}, {order("a", "b"), order("b", "a"), api.WrongOrder}, {order("a"), order("a", "a"), api.WrongOrder}, {nil, order("a"), api.WrongOrder}, {order("a", "b", "c"), order("a", "c"), api.WrongOrder},
		{bunch("a", "b"), bunch("b"), 0}, {bunch("a", "b", "a"), bunch("a", "a", "b"), 0}, {bunch("a", "b"), bunch("a", "a"), api.WrongLoose}, {bunch("a"), bunch("c"), api.WrongLoose},
		{order("a"), bunch("a"), api.WrongLoose}, {bunch("a"), order("a"), api.WrongOrder}, {nil, append(order("a"), bunch("a")...), api.WrongOrder | api.WrongLoose},
		{append(order("a"), bunch("b")...), append(bunch("b"), order("a")...), 0},
		{[]api.Message{{Stream: 1, Data: "a"}, {Data: "b"}}, []api.Message{{Data: "b"}, {Stream: 1, Data: "a"}}, 0},
		{[]api.Message{{Stream: 1, Data: "a"}}, []api.Message{{Data: "a"}}, api.WrongOrder}, {[]api.Message{{Stream: 1, Loose: true, Data: "a"}}, bunch("a"), api.WrongLoose},
		{order("a"), []api.Message{{Data: "a", Proto: 1}}, api.WrongOrder},
	} {
		if got := Held(c.sent, c.read); got != c.want {
			t.Errorf("%d: %d, not %d", n, got, c.want)
		}
	}
}

func TestEndsPeer(t *testing.T) {
	w := open(t)
	want := []api.End{{Host: 0}, {Host: 1}, {Host: 1, ID: 1}, {Host: 2}, {Host: 2, ID: 1}}
	if l := Ends(w); !slices.Equal(l, want) {
		t.Errorf("%v", l)
	}
	for _, pair := range [][2]api.End{{want[0], want[1]}, {want[2], want[3]}} {
		if k, ok := Peer(w, pair[0]); !ok || k != pair[1] {
			t.Errorf("%v: %v", pair, k)
		}
		if k, ok := Peer(w, pair[1]); !ok || k != pair[0] {
			t.Errorf("%v: %v", pair, k)
		}
	}
	for _, k := range []api.End{want[4], {Host: 0, ID: 1}, {Host: 9}, {Host: -1}} {
		if x, ok := Peer(w, k); ok || x != (api.End{}) {
			t.Errorf("%v: %v", k, x)
		}
	}
	if len(Ends(nil)) != 0 {
		t.Error("no world")
	}
}

func TestMonitor(t *testing.T) {
	w := open(t)
	m := New()
	do := func(a api.Act) { m.Note(a, w.Do(a)) }
	for _, s := range []string{"a", "b", ""} {
		do(api.Act{What: api.ActSend, S: s})
	}
	do(api.Act{What: api.ActSend, B: 1, C: 1, S: "loose"})
	w.Calm(3)
	do(api.Act{What: api.ActRead, Host: 1})
	k, other := api.End{}, api.End{Host: 1}
	if l := m.Sent(k); !slices.Equal(l, []api.Message{{Data: "a"}, {Data: "b"}, {Stream: 1, Loose: true, Data: "loose"}}) {
		t.Errorf("sent %v", l)
	}
	if l := m.Read(other); !slices.Equal(l, []api.Message{{Data: "a"}}) || len(m.Read(k)) != 0 || m.Wrong(w) != 0 || m.Missing(w, k) != 2 || m.Missing(w, other) != 0 {
		t.Errorf("read %v", l)
	}
	m.Sent(k)[0].Data = "changed"
	m.Read(other)[0].Data = "changed"
	if m.Wrong(w) != 0 || m.Sent(k)[0].Data != "a" {
		t.Error("what is answered is the caller's own")
	}
	for range 3 {
		do(api.Act{What: api.ActRead, Host: 1})
	}
	if m.Wrong(w) != 0 || m.Missing(w, k) != 0 || len(m.Read(other)) != 3 {
		t.Error("all was read")
	}
	m.Note(api.Act{What: api.ActRead, Host: 1}, api.Said{OK: true, Read: api.Message{Data: "c"}})
	if m.Wrong(w) != api.WrongOrder || m.Missing(w, k) != 0 {
		t.Error("WrongOrder")
	}
	m.Note(api.Act{What: api.ActRead, Host: 1}, api.Said{OK: true, Read: api.Message{Stream: 1, Loose: true, Data: "loose"}})
	m.Note(api.Act{What: api.ActRead, Host: 2, A: 1}, api.Said{OK: true})
	if m.Wrong(w) != api.WrongOrder|api.WrongLoose|api.WrongGhost {
		t.Error("all is wrong", m.Wrong(w))
	}
	ghost := New()
	ghost.Note(api.Act{What: api.ActRead, Host: 7}, api.Said{OK: true})
	if ghost.Wrong(w) != api.WrongGhost || ghost.Missing(w, api.End{Host: 7}) != 0 {
		t.Error("WrongGhost")
	}
	same := New()
	same.Note(api.Act{What: api.ActShut}, api.Said{OK: true})
	same.Note(api.Act{What: api.ActRead}, api.Said{Err: api.ErrNone})
	if len(same.sent)+len(same.read) != 0 {
		t.Error("what is not noted")
	}
}

func TestNil(t *testing.T) {
	var m *Monitor
	m.Note(api.Act{What: api.ActSend}, api.Said{OK: true})
	if m.Sent(api.End{}) != nil || m.Read(api.End{}) != nil || m.Wrong(nil) != 0 || m.Missing(nil, api.End{}) != 0 || New().Missing(nil, api.End{}) != 0 {
		t.Error("nil")
	}
}
