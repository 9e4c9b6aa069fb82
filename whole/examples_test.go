package whole

import (
	"math/rand"
	"strings"
	"testing"

	"crossway/api"
	"crossway/crcc"
	"crossway/natbox"
	"crossway/packet"
	"crossway/world"
)

// twins is a world in which host 0 is open; the one between knows so many tags of it that were used ahead, too: 8, 9 ..; the open one is 7.
func twins(t *testing.T, old int, second []uint32) *world.World {
	t.Helper()
	topo := topology()
	topo.Nats[0].Most = 20
	for n := range old {
		topo.Hosts[0].Draws = append(topo.Hosts[0].Draws, uint32(8+n), 100, 1, 2, 3, 4)
	}
	topo.Hosts[0].Draws = append(topo.Hosts[0].Draws, 7)
	topo.Hosts[1].Draws = second
	w, err := world.New(topo)
	if err != api.OK {
		t.Fatal(err)
	}
	w.Do(api.Act{What: api.ActListen, Host: 2, A: 80})
	for id := range old + 1 {
		w.Do(api.Act{What: api.ActConnect, Host: 0, B: 5, C: 2, E: 80, F: 2})
		w.Calm(8)
		if w.Assoc(0, id).State() != api.StateOpen {
			t.Fatal("the first one is not open")
		}
		if id < old {
			w.Do(api.Act{What: api.ActAbort, A: id})
			w.Calm(4)
		}
	}
	return w
}

// TestTwins is T3: so many times the second one draws a tag of the first one.
func TestTwins(t *testing.T) {
	for same := range api.MaxInit + 3 {
		draws := []uint32{7, 50, 1, 2, 3, 4}
		for n := range same - 1 {
			draws = append(draws, uint32(8+n))
		}
		if same == 0 {
			draws[0] = 99
		}
		old := max(0, same-1)
		w := twins(t, old, append(draws, 77))
		last := len(w.Nat(0).Table()) - 1
		entry, setup := w.Nat(0).Table()[last], w.Assoc(0, old).Setup()
		w.Do(api.Act{What: api.ActConnect, Host: 1, B: 5, C: 2, E: 80, F: 2})
		w.Calm(30)
		now := w.Nat(0).Table()[last]
		now.Seen = entry.Seen
		if now != entry || w.Assoc(0, old).Setup() != setup || w.Assoc(0, old).State() != api.StateOpen {
			t.Errorf("%d: the first one's entry and association stay as they are", same)
		}
		want, told := api.StateOpen, same
		if same > api.MaxInit {
			want, told = api.StateClosed, api.MaxInit+1
		}
		clashes, final := 0, api.News{}
		for _, final = range w.News(1) {
			if final.Event.What == api.EventClash {
				clashes++
			}
		}
		if w.Assoc(1, 0).State() != want || clashes != told || want == api.StateClosed && final.Event.What != api.EventFailed {
			t.Errorf("%d: state %d, told %d times, %+v", same, w.Assoc(1, 0).State(), clashes, final)
		}
		w.Do(api.Act{What: api.ActSend, Host: 0, A: old, S: "of the first one"})
		w.Do(api.Act{What: api.ActSend, Host: 1, S: "of the second one"})
		w.Calm(5)
		if s := w.Do(api.Act{What: api.ActRead, Host: 2, A: old}); s.Read.Data != "of the first one" {
			t.Errorf("%d: %+v", same, s)
		}
	}
}

// TestForgotten is T4, wherever the one between forgets all while an association opens, or is open.
func TestForgotten(t *testing.T) {
	for hops := range 14 {
		topo := topology()
		w, _ := world.New(topo)
		w.Do(api.Act{What: api.ActListen, Host: 2, A: 80})
		w.Do(api.Act{What: api.ActConnect, Host: 0, B: 5, C: 2, E: 80, F: 2})
		for range hops {
			if w.Len() == 0 {
				w.Do(api.Act{What: api.ActSend, S: "sent"})
			}
			w.Do(api.Act{What: api.ActDeliver})
		}
		w.Do(api.Act{What: api.ActReboot})
		w.Calm(300)
		if w.Assoc(0, 0).State() != api.StateOpen {
			t.Errorf("behind %d hops: state %d", hops, w.Assoc(0, 0).State())
		}
		w.Do(api.Act{What: api.ActSend, S: "sent"})
		w.Do(api.Act{What: api.ActReboot})
		w.Calm(300)
		many := w.Host(2).Many() - 1
		w.Do(api.Act{What: api.ActSend, Host: 2, A: many, S: "back"})
		w.Do(api.Act{What: api.ActReboot})
		w.Calm(300)
		if s := w.Do(api.Act{What: api.ActRead, Host: 2, A: many}); s.Read.Data != "sent" {
			t.Errorf("behind %d hops: %+v", hops, s)
		}
		if s := w.Do(api.Act{What: api.ActRead}); s.Read.Data != "back" {
			t.Errorf("behind %d hops: %+v", hops, s)
		}
	}
}

// TestBent is the fifth example: a bit is turned, and the chunk is sent again.
func TestBent(t *testing.T) {
	for bit := range 40 {
		w := twins(t, 0, nil)
		w.Do(api.Act{What: api.ActSend, S: strings.Repeat("x", 100)})
		w.Do(api.Act{What: api.ActDeliver})
		w.Do(api.Act{What: api.ActBend, B: 25 * bit})
		if _, err := packet.Get(w.Items()[0].D.S); err != api.ErrSum {
			t.Fatal("bit", bit, err)
		}
		w.Do(api.Act{What: api.ActDeliver})
		if w.Host(2).Bad() != 1 {
			t.Error("it says nothing")
		}
		w.Calm(40)
		if s := w.Do(api.Act{What: api.ActRead, Host: 2}); !s.OK || w.Assoc(0, 0).Stats().Late != 1 {
			t.Errorf("bit %d: %+v", bit, s)
		}
	}
}

// TestBytes is T5: whatever bytes come, whether or not their check is right, nothing breaks.
func TestBytes(t *testing.T) {
	r := rand.New(rand.NewSource(1))
	w := twins(t, 0, nil)
	s := w.Assoc(0, 0).Setup()
	box := natbox.New(100, 9)
	good := packet.Put(api.Packet{From: 80, To: 5, Tag: s.Mine, Chunks: []api.Chunk{{Type: api.ChunkSack, Tsn: 1, Gaps: []api.Gap{{From: 2, To: 3}}}, {Flags: 3, Tsn: s.YourTsn, Data: "data"}, {Type: api.ChunkBeat, Data: "x"}}})
	for n := range 20000 {
		b := []byte(good)
		for range r.Intn(6) {
			b[8+r.Intn(len(b)-8)] = byte(r.Intn(256))
		}
		text := crcc.Seal(string(b[:12+r.Intn(len(b)-11)]), 8)
		if n%7 == 0 {
			text = string(b)
		}
		if p, err := packet.Get(text); err == api.OK && packet.Put(p) != text {
			t.Fatalf("%q is read as %+v", text, p)
		}
		w.Do(api.Act{What: api.ActForge, B: 2, S: text})
		box.Out(api.Datagram{From: 1, To: 10, S: text}, n)
		box.In(api.Datagram{From: 10, To: 100, S: text})
		for w.Len() > 100 {
			w.Do(api.Act{What: api.ActLose})
		}
	}
}

// TestStrangers is T6: what bears no tag of an association changes none, whatever it says.
func TestStrangers(t *testing.T) {
	w := twins(t, 0, nil)
	s := w.Assoc(0, 0).Setup()
	before := *w.Assoc(0, 0)
	for typ := range 256 {
		for _, flags := range []int{0, 1, 2, 3} {
			c := api.Chunk{Type: typ, Flags: flags}
			if typ == api.ChunkInit || typ == api.ChunkInitAck {
				c.Tag = 99
			}
			p := api.Packet{From: 80, To: 5, Tag: s.Mine + 1, Chunks: []api.Chunk{c}}
			if typ == api.ChunkInit {
				p.Tag = 0
			}
			w.Do(api.Act{What: api.ActForge, B: 2, S: packet.Put(p)})
			if now := *w.Assoc(0, 0); now.State() != before.State() || now.Setup() != before.Setup() || now.Stats() != before.Stats() || now.Left() != 0 || len(w.News(0)) > 1 {
				t.Fatalf("%+v changes it", p)
			}
		}
	}
}
