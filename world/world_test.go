package world

import (
	"math"
	"reflect"
	"slices"
	"testing"

	"crossway/api"
	"crossway/packet"
)

func at(a api.Addr, nat int) api.Place { return api.Place{Addr: a, Nat: nat} }

// topology is two hosts behind the one between 0, one of them behind 1, too, and one outside.
func topology() api.Topo {
	return api.Topo{
		Hosts: []api.HostSpec{
			{Places: []api.Place{at(1, 0), at(2, 1)}, Key: "a"},
			{Places: []api.Place{at(3, 0)}, Key: "b"},
			{Places: []api.Place{at(10, -1), at(11, -1)}, Key: "c"},
		},
		Nats: []api.NatSpec{{Outer: 100, Most: 9}, {Outer: 101, Most: 9}},
	}
}

func made(t *testing.T, x api.Topo) *World {
	t.Helper()
	w, err := New(x)
	if err != api.OK {
		t.Fatal("New", err)
	}
	return w
}

func do(t *testing.T, w *World, l ...api.Act) {
	t.Helper()
	for _, a := range l {
		if s := w.Do(a); !s.OK || s.Err != api.OK {
			t.Fatalf("%+v: %+v", a, s)
		}
	}
}

func listen() api.Act { return api.Act{What: api.ActListen, Host: 2, A: 80} }

func connect(host int) api.Act {
	return api.Act{What: api.ActConnect, Host: host, B: 5, C: 2, E: 80, F: 2}
}

func open(t *testing.T) *World {
	t.Helper()
	w := made(t, topology())
	do(t, w, listen(), connect(0))
	w.Calm(8)
	if w.Assoc(0, 0).State() != api.StateOpen || w.Assoc(2, 0).State() != api.StateOpen {
		t.Fatal("not open")
	}
	return w
}

func TestNew(t *testing.T) {
	x := topology()
	x.Nats[0].Outer = 10
	if w, err := New(x); w != nil || err != api.ErrInput {
		t.Error("a topology that may not be")
	}
	x = topology()
	w := made(t, x)
	x.Hosts[2].Places[0].Nat = 1
	x.Nats[0].Outer = 7
	if w.Now() != 0 || w.Len() != 0 || w.Dropped() != 0 || len(w.Items()) != 0 || w.Host(3) != nil || w.Host(-1) != nil || w.Nat(2) != nil || w.Nat(-1) != nil || w.Assoc(0, 0) != nil || w.Assoc(9, 0) != nil || w.Nat(0).Outer() != 100 {
		t.Error("New")
	}
	do(t, w, listen(), connect(0))
	w.Calm(8)
	if w.Assoc(0, 0).State() != api.StateOpen {
		t.Error("what is handed in may be changed later")
	}
}

func TestSixHops(t *testing.T) {
	w := made(t, topology())
	do(t, w, listen())
	if s := w.Do(connect(0)); s != (api.Said{OK: true}) || w.Len() != 1 {
		t.Fatalf("%+v", s)
	}
	legs := []int{api.LegInside, api.LegWorld, api.LegWorld, api.LegBack, api.LegInside, api.LegWorld, api.LegWorld, api.LegBack}
	ends := [][2]api.Addr{{1, 10}, {100, 10}, {10, 100}, {10, 1}, {1, 10}, {100, 10}, {10, 100}, {10, 1}}
	for n, leg := range legs {
		x := w.Items()[0]
		if len(w.Items()) != 1 || x.Leg != leg || x.Nat != 0 || x.D.From != ends[n][0] || x.D.To != ends[n][1] {
			t.Fatalf("hop %d: %+v", n, x)
		}
		if n == 6 && w.Assoc(2, 0).State() != api.StateOpen {
			t.Error("six hops, and one is open")
		}
		do(t, w, api.Act{What: api.ActDeliver})
	}
	if w.Assoc(0, 0).State() != api.StateOpen || w.Len() != 0 {
		t.Error("both are open")
	}
	news := []api.News{{Event: api.Event{What: api.EventUp}}}
	if !reflect.DeepEqual(w.News(0), news) || !reflect.DeepEqual(w.News(2), news) || len(w.News(0)) != 0 || len(w.News(1)) != 0 || w.News(9) != nil {
		t.Error("News")
	}
}

func TestMessages(t *testing.T) {
	w := open(t)
	do(t, w, api.Act{What: api.ActSend, S: "in order", B: 1}, api.Act{What: api.ActSend, C: -1, S: "loose"})
	w.Calm(2)
	for _, want := range []api.Message{{Stream: 1, Data: "in order"}, {Loose: true, Data: "loose"}} {
		if s := w.Do(api.Act{What: api.ActRead, Host: 2}); s != (api.Said{OK: true, Read: want}) {
			t.Errorf("%+v", s)
		}
	}
	if s := w.Do(api.Act{What: api.ActRead, Host: 2}); s != (api.Said{Err: api.ErrNone}) {
		t.Errorf("there is none %+v", s)
	}
	if s := w.Do(api.Act{What: api.ActSend, S: "", B: 1}); s != (api.Said{Err: api.ErrInput}) {
		t.Errorf("%+v", s)
	}
	w.Calm(5)
	if w.Assoc(0, 0).Left() != 0 {
		t.Error("all came")
	}
}

func TestTwins(t *testing.T) {
	x := topology()
	x.Hosts[0].Draws = []uint32{7, 100}
	x.Hosts[1].Draws = []uint32{7, 200, 1, 2, 3, 4, 8}
	w := made(t, x)
	do(t, w, listen(), connect(0))
	w.Calm(8)
	before := w.Nat(0).Table()[0]
	do(t, w, connect(1))
	w.Calm(12)
	after := w.Nat(0).Table()[0]
	if w.Assoc(1, 0).State() != api.StateOpen || w.Assoc(1, 0).Setup().Mine != 8 || w.Assoc(0, 0).State() != api.StateOpen || after.Inner != before.Inner || after.In != 7 || after.Out != before.Out {
		t.Error("the second one is open with another tag")
	}
	if l := w.News(1); len(l) != 2 || l[0].Event != (api.Event{What: api.EventClash, Why: api.CauseCollision}) {
		t.Errorf("%+v", l)
	}
	x.Hosts[1].Draws = nil
	w = made(t, x)
	plain := connect(1)
	plain.F = -2
	do(t, w, listen(), connect(0))
	w.Calm(8)
	do(t, w, plain)
	w.Calm(12)
	if a := w.Assoc(1, 0); a.State() != api.StateOpen || a.Setup().MyPort != 6 || !a.Setup().Plain || a.Setup().Out != 2 {
		t.Errorf("another port %+v", a.Setup())
	}
}

func TestForgetting(t *testing.T) {
	w := open(t)
	do(t, w, api.Act{What: api.ActReboot}, api.Act{What: api.ActSend, S: "x"})
	if len(w.Nat(0).Table()) != 0 {
		t.Error("all is forgotten")
	}
	w.Calm(60)
	if s := w.Do(api.Act{What: api.ActRead, Host: 2}); s.Read.Data != "x" || w.Assoc(0, 0).Stats().Mends != 1 || len(w.Nat(0).Table()) != 1 {
		t.Errorf("it knows the way %+v %+v", s, w.Assoc(0, 0).Stats())
	}
	w.Do(api.Act{What: api.ActSend, Host: 2, S: "back"})
	w.Calm(60)
	if s := w.Do(api.Act{What: api.ActRead}); s.Read.Data != "back" {
		t.Errorf("and back %+v", s)
	}
	do(t, w, api.Act{What: api.ActAbort})
	for range api.NatLife / 50 {
		do(t, w, api.Act{What: api.ActTick, A: 50})
	}
	w.Calm(2)
	do(t, w, api.Act{What: api.ActExpire})
	if len(w.Nat(0).Table()) != 1 {
		t.Error("it was used not long ago")
	}
	w.Calm(api.NatLife + 2)
	do(t, w, api.Act{What: api.ActExpire})
	if len(w.Nat(0).Table()) != 0 {
		t.Error("it was not used for long")
	}
}

func TestAddresses(t *testing.T) {
	w := open(t)
	do(t, w, api.Act{What: api.ActAdd, B: 1})
	w.Calm(6)
	if l := w.Assoc(2, 0).Paths(); len(l) != 2 || l[1].Peer != 101 {
		t.Fatalf("%+v", l)
	}
	do(t, w, api.Act{What: api.ActFirst, B: 1})
	w.Calm(6)
	if w.Assoc(2, 0).First() != 1 || w.Assoc(0, 0).First() != 1 {
		t.Error("the first one")
	}
	do(t, w, api.Act{What: api.ActOnly, B: 1}, api.Act{What: api.ActSend, S: "x"})
	w.Calm(6)
	if l := w.Assoc(2, 0).Paths(); len(l) != 1 || l[0].Peer != 101 || len(w.Assoc(0, 0).Paths()) != 1 {
		t.Errorf("%+v", l)
	}
	if s := w.Do(api.Act{What: api.ActAdd, B: 2}); s != (api.Said{Err: api.ErrInput}) {
		t.Errorf("%+v", s)
	}
	do(t, w, api.Act{What: api.ActMore, B: 3})
	w.Calm(6)
	if out, in := w.Assoc(0, 0).Streams(); out != 5 || in != 2 {
		t.Error("streams", out, in)
	}
	do(t, w, api.Act{What: api.ActShut})
	w.Calm(20)
	if w.Assoc(0, 0).State() != api.StateClosed || w.Assoc(2, 0).State() != api.StateClosed {
		t.Error("shut down")
	}
}

func TestPackets(t *testing.T) {
	w := made(t, topology())
	for what := api.ActDeliver; what <= api.ActBend; what++ {
		if s := w.Do(api.Act{What: what}); s != (api.Said{Err: api.ErrNone}) {
			t.Errorf("none is under way %+v", s)
		}
	}
	do(t, w, connect(0), connect(1))
	first := w.Items()[0].D
	do(t, w, api.Act{What: api.ActDouble, A: -2})
	if l := w.Items(); len(l) != 3 || l[2].D != first {
		t.Error("doubled")
	}
	do(t, w, api.Act{What: api.ActBend, A: 5, B: 100})
	if l := w.Items(); !l[2].Bent || l[2].D == first || l[0].Bent {
		t.Error("bent")
	}
	if s := w.Do(api.Act{What: api.ActBend, A: 2}); s.OK || w.Len() != 3 {
		t.Error("bent twice")
	}
	do(t, w, api.Act{What: api.ActDeliver, A: 2})
	if w.Len() != 2 || w.Dropped() != 1 {
		t.Error("one between drops what is bent")
	}
	do(t, w, api.Act{What: api.ActLose, A: math.MaxInt})
	if l := w.Items(); len(l) != 1 {
		t.Error("lost")
	}
	for w.Len() < api.MostNet {
		do(t, w, api.Act{What: api.ActDouble})
	}
	if s := w.Do(api.Act{What: api.ActDouble}); s.OK || w.Len() != api.MostNet {
		t.Error("no room")
	}
}

func TestTicks(t *testing.T) {
	w := made(t, topology())
	for _, n := range []int{0, -1, 65, math.MaxInt} {
		if s := w.Do(api.Act{What: api.ActTick, A: n}); s != (api.Said{Err: api.ErrInput}) || w.Now() != 0 {
			t.Error("ticks", n)
		}
	}
	do(t, w, connect(0), api.Act{What: api.ActTick, A: 29}, api.Act{What: api.ActTick, A: 1})
	if w.Now() != 30 || w.Len() != 2 {
		t.Error("time goes on", w.Now(), w.Len())
	}
	do(t, w, api.Act{What: api.ActTick, A: 64})
	w.Calm(0)
	w.Calm(-5)
	if w.Now() != 94 {
		t.Error("no rounds", w.Now())
	}
	w.Calm(1)
	if w.Now() != 95 || !slices.ContainsFunc(w.Items(), func(x api.Item) bool { return x.Leg == api.LegWorld }) {
		t.Error("in each round comes what was under way when it began")
	}
}

func TestForge(t *testing.T) {
	w := open(t)
	abort := func(tag uint32) string {
		return packet.Put(api.Packet{From: 80, To: 5, Tag: tag, Chunks: []api.Chunk{{Type: api.ChunkAbort}}})
	}
	tag := w.Assoc(0, 0).Setup().Mine
	do(t, w, api.Act{What: api.ActForge, B: 2, S: abort(tag + 1)}, api.Act{What: api.ActForge, B: 1, S: abort(tag)}, api.Act{What: api.ActForge, B: 2, S: "nothing"})
	if w.Assoc(0, 0).State() != api.StateOpen || w.Host(0).Bad() != 1 {
		t.Error("it is of no association")
	}
	do(t, w, api.Act{What: api.ActForge, A: 1, B: 2, S: abort(tag)})
	if w.Assoc(0, 0).State() != api.StateClosed {
		t.Error("it is forged")
	}
	for _, a := range []api.Act{{A: 2, B: 2}, {A: -1, B: 2}, {B: 3}, {B: -1}, {B: 2, C: 2}} {
		a.What = api.ActForge
		if s := w.Do(a); s != (api.Said{Err: api.ErrInput}) {
			t.Errorf("%+v: %+v", a, s)
		}
	}
}

func TestDoNot(t *testing.T) {
	w := open(t)
	for _, a := range []api.Act{{What: -1}, {What: 18}, {What: math.MinInt}, {Host: 3, A: 1}, {Host: -1, A: 1}, {What: api.ActReboot, A: 2}, {What: api.ActExpire, A: -1}, {What: api.ActListen}, {What: api.ActConnect, C: 7, B: 1, E: 1, F: 1}, {What: api.ActConnect, C: 2, D: 2, B: 1, E: 1, F: 1}, {What: api.ActConnect, C: 2, B: 1, E: 1, F: math.MinInt}, {What: api.ActConnect, C: 2, B: 1, E: 1}} {
		if s := w.Do(a); s != (api.Said{Err: api.ErrInput}) {
			t.Errorf("%+v: %+v", a, s)
		}
	}
	for _, what := range []int{api.ActSend, api.ActRead, api.ActShut, api.ActAbort, api.ActAdd, api.ActOnly, api.ActFirst, api.ActMore} {
		if s := w.Do(api.Act{What: what, A: 1, S: "x"}); s != (api.Said{Err: api.ErrNone}) {
			t.Errorf("%d: %+v", what, s)
		}
		if s := w.Do(api.Act{What: what, Host: 3}); s != (api.Said{Err: api.ErrInput}) {
			t.Errorf("%d: %+v", what, s)
		}
	}
}

func TestSame(t *testing.T) {
	run := func() []api.Item {
		w := made(t, topology())
		do(t, w, listen(), connect(0), connect(1))
		w.Calm(9)
		do(t, w, api.Act{What: api.ActSend, S: "x"})
		w.Calm(1)
		return w.Items()
	}
	if !slices.Equal(run(), run()) {
		t.Error("the same calls answer the same")
	}
}

func TestNil(t *testing.T) {
	var w *World
	w.Calm(5)
	if w.Do(listen()) != (api.Said{}) || w.Now() != 0 || w.Len() != 0 || w.Dropped() != 0 || w.Items() != nil || w.Host(0) != nil || w.Assoc(0, 0) != nil || w.Nat(0) != nil || w.News(0) != nil {
		t.Error("nil")
	}
}

// TestInsideAndOutside: a host behind one between and one outside may have one address, and an association with each other.
func TestInsideAndOutside(t *testing.T) {
	x := topology()
	x.Hosts[1].Places[0].Addr = 10
	w := made(t, x)
	do(t, w, listen(), connect(1))
	w.Calm(8)
	if w.Assoc(1, 0).State() != api.StateOpen || w.Assoc(2, 0).State() != api.StateOpen {
		t.Fatal("not open")
	}
	do(t, w, api.Act{What: api.ActSend, Host: 1, S: "from inside"}, api.Act{What: api.ActSend, Host: 2, S: "from outside"}, api.Act{What: api.ActReboot})
	w.Calm(200)
	for host, want := range map[int]string{1: "from outside", 2: "from inside"} {
		if s := w.Do(api.Act{What: api.ActRead, Host: host}); !s.OK || s.Read.Data != want {
			t.Errorf("host %d: %+v", host, s)
		}
	}
}

// TestAsksItself: a host outside asks itself over one address or two, one behind ones between over one that is outside.
func TestAsksItself(t *testing.T) {
	x := topology()
	x.Hosts[1].Places = append(x.Hosts[1].Places, at(12, -1))
	w := made(t, x)
	for _, a := range []api.Act{{Host: 2, A: 0, B: 5, C: 2, D: 0}, {Host: 2, A: 0, B: 6, C: 2, D: 1}, {Host: 1, A: 0, B: 5, C: 1, D: 1}} {
		ends := w.Host(a.Host).Many()
		do(t, w, api.Act{What: api.ActListen, Host: a.Host, A: 80})
		a.What, a.E, a.F = api.ActConnect, 80, 2
		if s := w.Do(a); !s.OK || s.ID != ends {
			t.Fatalf("%+v", s)
		}
		w.Calm(10)
		if w.Assoc(a.Host, ends).State() != api.StateOpen || w.Assoc(a.Host, ends+1).State() != api.StateOpen {
			t.Fatalf("not open: %+v", a)
		}
		do(t, w, api.Act{What: api.ActSend, Host: a.Host, A: ends, S: "hello"})
		w.Calm(10)
		if s := w.Do(api.Act{What: api.ActRead, Host: a.Host, A: ends + 1}); !s.OK || s.Read.Data != "hello" {
			t.Errorf("%+v", s)
		}
	}
}
