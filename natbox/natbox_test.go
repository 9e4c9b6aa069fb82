package natbox

import (
	"reflect"
	"strings"
	"testing"

	"crossway/api"
	"crossway/packet"
	"crossway/param"
)

const (
	outer = 100
	peer  = 200
)

func bytesOf(from, to int, tag uint32, l ...api.Chunk) string {
	s := packet.Put(api.Packet{From: from, To: to, Tag: tag, Chunks: l})
	if s == "" {
		panic("no packet")
	}
	return s
}

func initOf(tag uint32, restart bool) api.Chunk {
	c := api.Chunk{Type: api.ChunkInit, Tag: tag, Out: 1, In: 1}
	if restart {
		c.Params = []api.Param{{Type: api.ParamRestart}}
	}
	return c
}

func asks(b *Box, inner api.Addr, tag uint32, restart bool, now int) (int, api.Datagram) {
	return b.Out(api.Datagram{From: inner, To: peer, S: bytesOf(5, 6, 0, initOf(tag, restart))}, now)
}

func answered(b *Box, mine, yours uint32) (int, api.Datagram) {
	return b.In(api.Datagram{From: peer, To: outer, S: bytesOf(6, 5, mine, api.Chunk{Type: api.ChunkInitAck, Tag: yours, Out: 1, In: 1})})
}

func sends(b *Box, inner api.Addr, tag uint32, now int, l ...api.Chunk) (int, api.Datagram) {
	return b.Out(api.Datagram{From: inner, To: peer, S: bytesOf(5, 6, tag, l...)}, now)
}

func conf(mine, yours uint32) api.Chunk {
	return api.Chunk{Type: api.ChunkConf, Tsn: 1, Params: []api.Param{param.Addr(0), param.Tags(1, mine, yours)}}
}

func told(t *testing.T, d api.Datagram, inner api.Addr) (api.Packet, api.Chunk) {
	t.Helper()
	p, err := packet.Get(d.S)
	if err != api.OK || d.From != peer || d.To != inner || p.From != 6 || p.To != 5 || len(p.Chunks) != 1 || len(p.Chunks[0].Causes) != 1 {
		t.Fatalf("answer %+v %+v %v", d, p, err)
	}
	return p, p.Chunks[0]
}

func TestOpening(t *testing.T) {
	b := New(outer, 4)
	d := api.Datagram{From: 1, To: peer, S: bytesOf(5, 6, 0, initOf(7, true))}
	what, out := b.Out(d, 3)
	if what != api.NatPasses || out != (api.Datagram{From: outer, To: peer, S: d.S}) {
		t.Fatal("an init passes")
	}
	want := api.Entry{Inner: 1, Port: 5, Peer: peer, PeerPort: 6, In: 7, Seen: 3}
	if l := b.Table(); len(l) != 1 || l[0] != want {
		t.Errorf("entry %+v", l)
	}
	if what, _ := sends(b, 1, 9, 4, api.Chunk{Type: api.ChunkEchoAck}); what != api.NatAnswers {
		t.Error("a tag that is not known")
	}
	s := bytesOf(6, 5, 7, api.Chunk{Type: api.ChunkInitAck, Tag: 9, Out: 1, In: 1})
	what, in := b.In(api.Datagram{From: peer, To: outer, S: s})
	if what != api.NatPasses || in != (api.Datagram{From: peer, To: 1, S: s}) {
		t.Error("the answer comes in")
	}
	if e := b.Table()[0]; e.Out != 9 || e.Seen != 3 {
		t.Errorf("what is learned: %+v", e)
	}
	if what, d := sends(b, 1, 9, 8, api.Chunk{Type: api.ChunkEchoAck}); what != api.NatPasses || d.From != outer || b.Table()[0].Seen != 8 {
		t.Error("the ways are known")
	}
	if what, _ := sends(b, 1, 7, 9, api.Chunk{Type: api.ChunkAbort, Flags: api.FlagMirror}); what != api.NatPasses || b.Table()[0].Seen != 9 {
		t.Error("a mirrored abort goes out")
	}
	if what, d := b.In(api.Datagram{From: peer, To: outer, S: bytesOf(6, 5, 9, api.Chunk{Type: api.ChunkAbort, Flags: api.FlagMirror})}); what != api.NatPasses || d.To != 1 {
		t.Error("a mirrored abort comes in")
	}
}

func TestIn(t *testing.T) {
	b := New(outer, 4)
	asks(b, 1, 7, true, 0)
	answered(b, 7, 9)
	ack := api.Chunk{Type: api.ChunkEchoAck}
	for n, d := range []api.Datagram{
		{From: peer, To: outer, S: bytesOf(6, 5, 8, ack)}, {From: peer + 1, To: outer, S: bytesOf(6, 5, 7, ack)}, {From: peer, To: outer, S: bytesOf(5, 6, 7, ack)},
		{From: peer, To: outer + 1, S: bytesOf(6, 5, 7, ack)}, {From: peer, To: outer, S: "nothing"}, {From: peer, To: outer, S: ""},
		{From: peer, To: outer, S: bytesOf(6, 5, 9, ack)}, {From: peer, To: outer, S: bytesOf(6, 5, 7, api.Chunk{Type: api.ChunkAbort, Flags: 1})}, {From: peer, To: outer, S: bytesOf(6, 5, 0, initOf(7, true))},
	} {
		if what, got := b.In(d); what != api.NatDrops || got != (api.Datagram{}) {
			t.Errorf("%d comes in", n)
		}
	}
}

func TestCollision(t *testing.T) {
	b := New(outer, 4)
	asks(b, 1, 7, true, 0)
	before := b.Table()
	what, d := asks(b, 2, 7, true, 5)
	if what != api.NatAnswers || !reflect.DeepEqual(before, b.Table()) {
		t.Fatal("the first one stays")
	}
	p, c := told(t, d, 2)
	s := bytesOf(5, 6, 0, initOf(7, true))
	if p.Tag != 7 || c.Type != api.ChunkAbort || c.Flags != api.FlagBetween || c.Causes[0] != (api.Cause{Code: api.CauseCollision, Info: s[:min(40, len(s))]}) {
		t.Errorf("answer %+v", p)
	}
	if what, _ := asks(b, 2, 8, true, 6); what != api.NatPasses || len(b.Table()) != 2 {
		t.Error("another tag")
	}
	what, d = asks(b, 3, 9, false, 6)
	if what != api.NatAnswers || len(b.Table()) != 2 {
		t.Fatal("the ports are another one's")
	}
	if p, c := told(t, d, 3); p.Tag != 9 || c.Type != api.ChunkAbort || c.Causes[0].Code != api.CausePorts {
		t.Errorf("answer %+v", p)
	}
	if what, _ := asks(New(outer, 1), 3, 9, false, 6); what != api.NatPasses {
		t.Error("ports that nobody has")
	}
	if what, d := asks(New(outer, 0), 3, 9, true, 6); what != api.NatDrops || d != (api.Datagram{}) {
		t.Error("a full table")
	}
	if what, _ := asks(b, 1, 7, true, 77); what != api.NatPasses || b.Table()[0].Seen != 77 || len(b.Table()) != 2 {
		t.Error("the same init again")
	}
}

func TestUnknown(t *testing.T) {
	b := New(outer, 4)
	data := api.Chunk{Flags: 3, Tsn: 1, Data: strings.Repeat("x", 100)}
	what, d := sends(b, 1, 9, 0, data)
	if what != api.NatAnswers {
		t.Fatal("nothing is known")
	}
	p, c := told(t, d, 1)
	if p.Tag != 9 || c.Type != api.ChunkError || c.Flags != api.FlagBetween|api.FlagMirror || c.Causes[0] != (api.Cause{Code: api.CauseState, Info: bytesOf(5, 6, 9, data)[:40]}) {
		t.Errorf("answer %+v", p)
	}
	for _, l := range [][]api.Chunk{{{Type: api.ChunkAbort}}, {{Type: api.ChunkShutDone}}, {data, {Type: api.ChunkAbort}}} {
		if what, d := sends(b, 1, 9, 0, l...); what != api.NatDrops || d != (api.Datagram{}) {
			t.Errorf("%+v is answered", l)
		}
	}
	for _, s := range []string{"", "nothing", bytesOf(5, 6, 9, data)[:50]} {
		if what, _ := b.Out(api.Datagram{From: 1, To: peer, S: s}, 0); what != api.NatDrops {
			t.Error("bytes that say no packet")
		}
	}
}

func TestTagsAreLearned(t *testing.T) {
	b := New(outer, 2)
	if what, _ := sends(b, 1, 9, 5, conf(7, 8)); what != api.NatDrops || len(b.Table()) != 0 {
		t.Error("the second tag is another one")
	}
	if what, d := sends(b, 1, 9, 5, api.Chunk{Type: api.ChunkAuth}, conf(7, 9)); what != api.NatPasses || d.From != outer {
		t.Error("both tags")
	}
	want := api.Entry{Inner: 1, Port: 5, Peer: peer, PeerPort: 6, In: 7, Out: 9, Seen: 5}
	if l := b.Table(); len(l) != 1 || l[0] != want {
		t.Errorf("entry %+v", l)
	}
	what, d := sends(b, 2, 9, 5, conf(7, 9))
	if what != api.NatAnswers {
		t.Fatal("another one inside")
	}
	if p, c := told(t, d, 2); p.Tag != 9 || c.Type != api.ChunkError || c.Flags != api.FlagBetween|api.FlagMirror || c.Causes[0].Code != api.CauseCollision {
		t.Errorf("answer %+v", p)
	}
	sends(b, 2, 9, 5, conf(8, 9))
	if what, _ := sends(b, 3, 9, 5, conf(10, 9)); what != api.NatDrops || len(b.Table()) != 2 {
		t.Error("a full table")
	}
	wrong := api.Chunk{Type: api.ChunkConf, Params: []api.Param{{Type: api.ParamTags, Value: "x"}, param.Tags(1, 77, 9)}}
	if what, _ := sends(b, 3, 9, 5, wrong); what != api.NatAnswers {
		t.Error("just the first tags of a conf say something")
	}
}

func TestForgetting(t *testing.T) {
	b := New(outer, 4)
	asks(b, 1, 7, true, 0)
	asks(b, 1, 8, true, 1)
	if b.Expire(api.NatLife) != 0 || b.Expire(api.NatLife+1) != 1 || len(b.Table()) != 1 {
		t.Error("Expire")
	}
	b.Reboot()
	if len(b.Table()) != 0 || b.Outer() != outer {
		t.Error("Reboot")
	}
}

func TestShowAsked(t *testing.T) {
	if Show("abc") != "abc" || Show("") != "" || Show(strings.Repeat("x", 41)) != strings.Repeat("x", 40) {
		t.Error("Show")
	}
	if from, to, tag, ok := Asked(Show(bytesOf(5, 6, 9, api.Chunk{Type: api.ChunkEchoAck}))); from != 5 || to != 6 || tag != 9 || !ok {
		t.Error("Asked")
	}
	if from, to, tag, ok := Asked("abcdefg"); from != 0 || to != 0 || tag != 0 || ok {
		t.Error("Asked of too few bytes")
	}
	if _, _, _, ok := Asked("abcdefgh"); !ok {
		t.Error("Asked of as many as must be")
	}
}

func TestNil(t *testing.T) {
	var b *Box
	b.Reboot()
	d := api.Datagram{From: 1, To: peer, S: bytesOf(5, 6, 0, initOf(7, true))}
	if what, got := b.Out(d, 1); what != 0 || got != (api.Datagram{}) {
		t.Error("Out of nil")
	}
	if what, got := b.In(d); what != 0 || got != (api.Datagram{}) || b.Outer() != 0 || b.Table() != nil || b.Expire(5) != 0 {
		t.Error("nil")
	}
}
