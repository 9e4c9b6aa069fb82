package host

import (
	"math"
	"reflect"
	"slices"
	"strings"
	"testing"

	"crossway/api"
	"crossway/cookie"
	"crossway/packet"
	"crossway/param"
)

func made(t *testing.T, addr api.Addr, draws ...uint32) *Host {
	t.Helper()
	h, err := New([]api.Addr{addr, addr + 100}, "key", draws)
	if err != api.OK {
		t.Fatal("New", err)
	}
	return h
}

// hand lets all that hosts sent come to those that have the addresses: how many packets.
func hand(now int, hosts ...*Host) int {
	many := 0
	for _, from := range hosts {
		for _, d := range from.Outs() {
			for _, to := range hosts {
				if slices.Contains(to.Addrs(), d.To) {
					to.Take(d, now)
					many++
				}
			}
		}
	}
	return many
}

func calm(now int, hosts ...*Host) {
	for hand(now, hosts...) > 0 {
	}
}

func want() Want { return Want{MyPort: 5, Peer: 2, PeerPort: 6, Streams: 3} }

// open is two hosts, at 1 and 2, with an association each that is open.
func open(t *testing.T) (*Host, *Host) {
	t.Helper()
	a, b := made(t, 1), made(t, 2)
	b.Listen(6)
	if id, err := a.Connect(want(), 0); id != 0 || err != api.OK {
		t.Fatal("Connect", id, err)
	}
	calm(0, a, b)
	if a.At(0).State() != api.StateOpen || b.At(0).State() != api.StateOpen {
		t.Fatal("not open")
	}
	return a, b
}

func get(t *testing.T, d api.Datagram) api.Packet {
	t.Helper()
	p, err := packet.Get(d.S)
	if err != api.OK {
		t.Fatal(err)
	}
	return p
}

func one(t *testing.T, h *Host) (api.Datagram, api.Packet) {
	t.Helper()
	l := h.Outs()
	if len(l) != 1 {
		t.Fatalf("%d packets", len(l))
	}
	return l[0], get(t, l[0])
}

func give(h *Host, from, to api.Addr, now int, p api.Packet) {
	h.Take(api.Datagram{From: from, To: to, S: packet.Put(p)}, now)
}

func TestNew(t *testing.T) {
	for _, l := range [][]api.Addr{nil, {0}, {1, 0}, {1, 2, 1}, {1, 2, 3, 4, 5}} {
		if h, err := New(l, "", nil); err != api.ErrInput || h != nil {
			t.Error("New", l)
		}
	}
	addrs := []api.Addr{1, 2, 3, 4}
	h, err := New(addrs, "", nil)
	if err != api.OK || h.Many() != 0 || h.Bad() != 0 || h.At(0) != nil || len(h.News()) != 0 {
		t.Error("New")
	}
	addrs[0] = 9
	l := h.Addrs()
	l[1] = 9
	if !slices.Equal(h.Addrs(), []api.Addr{1, 2, 3, 4}) {
		t.Error("Addrs")
	}
}

func TestListen(t *testing.T) {
	h := made(t, 1)
	for _, n := range []int{0, -1, 65536, math.MaxInt} {
		if h.Listen(n) != api.ErrInput || h.Port(n) {
			t.Error("Listen", n)
		}
	}
	for n := range api.MostPorts {
		if h.Listen(n+1) != api.OK || !h.Port(n+1) {
			t.Error("Listen", n)
		}
	}
	if h.Listen(99) != api.ErrFull || h.Port(99) || h.Listen(1) != api.OK {
		t.Error("too many")
	}
}

func TestConnectNot(t *testing.T) {
	h := made(t, 1)
	for n, change := range []func(x *Want){
		func(x *Want) { x.Local = 2 }, func(x *Want) { x.Local = -1 }, func(x *Want) { x.MyPort = 0 }, func(x *Want) { x.PeerPort = 65536 }, func(x *Want) { x.Peer = 0 }, func(x *Want) { x.Streams = 0 }, func(x *Want) { x.Streams = 17 },
	} {
		x := want()
		change(&x)
		if id, err := h.Connect(x, 0); id != -1 || err != api.ErrInput || h.Many() != 0 || len(h.Outs()) != 0 {
			t.Error("Connect", n)
		}
	}
	for n := range api.MostMade {
		x := want()
		x.MyPort += n
		if id, err := h.Connect(x, 0); id != n || err != api.OK {
			t.Fatal("Connect", id, err)
		}
	}
	if id, err := h.Connect(want(), 0); id != -1 || err != api.ErrInput {
		t.Error("one of these is there", err)
	}
	h.Abort(0, 0)
	if id, err := h.Connect(want(), 0); id != -1 || err != api.ErrFull || h.Many() != api.MostMade {
		t.Error("too many", err)
	}
}

func TestDraws(t *testing.T) {
	h := made(t, 1, 0, 70, 71, 1, 2, 3, 4, 70, 70, 80, 81)
	h.Connect(want(), 0)
	s := h.At(0).Setup()
	if s.Mine != 70 || s.MyTsn != 71 || s.MyRandom != "\x00\x00\x00\x01\x00\x00\x00\x02\x00\x00\x00\x03\x00\x00\x00\x04" || s.Local != 1 || s.Peer != 2 || s.MyPort != 5 || s.PeerPort != 6 || s.Out != 3 || s.In != 3 {
		t.Errorf("%+v", s)
	}
	x := want()
	x.MyPort, x.Local, x.Plain = 9, 1, true
	h.Connect(x, 0)
	if s := h.At(1).Setup(); s.Mine != 80 || s.MyTsn != 81 || s.Local != 101 || !s.Plain || s.MyRandom == "" {
		t.Errorf("a tag is none of its associations' %+v", s)
	}
	a, b := made(t, 1), made(t, 1)
	c, _ := New([]api.Addr{1, 101}, "kez", nil)
	for range 100 {
		n := a.drawer.draw()
		if n == 0 || n != b.drawer.draw() || n == c.drawer.draw() {
			t.Error("what is drawn is drawn by a rule", n)
		}
	}
}

func TestOpening(t *testing.T) {
	a, b := open(t)
	if l := a.News(); !reflect.DeepEqual(l, []api.News{{Event: api.Event{What: api.EventUp}}}) || len(a.News()) != 0 {
		t.Errorf("news %+v", l)
	}
	if l := b.News(); !reflect.DeepEqual(l, []api.News{{Event: api.Event{What: api.EventUp}}}) {
		t.Errorf("news %+v", l)
	}
	sa, sb := a.At(0).Setup(), b.At(0).Setup()
	if sa.Mine != sb.Yours || sa.Yours != sb.Mine || sa.MyTsn != sb.YourTsn || sa.YourTsn != sb.MyTsn || sa.Random != sb.MyRandom || sa.MyRandom != sb.Random || sb.Rwnd != api.RoomIn {
		t.Errorf("%+v %+v", sa, sb)
	}
	if out, in := b.At(0).Streams(); out != 3 || in != 3 {
		t.Error("streams", out, in)
	}
	if a.Send(0, api.Message{Data: "hello"}, 1) != api.OK || a.Send(0, api.Message{}, 1) != api.ErrInput {
		t.Error("Send")
	}
	calm(1, a, b)
	if m, ok := b.Read(0, 2); !ok || m.Data != "hello" {
		t.Error("Read", m)
	}
	b.Tick(3)
	if _, p := one(t, b); p.Chunks[0].Type != api.ChunkSack {
		t.Error("Tick")
	}
	if a.More(0, 2, 3) != api.OK || len(a.Outs()) != 1 || a.Shut(0, 3) != api.OK || a.Abort(0, 3) != api.OK || a.Abort(0, 3) != api.ErrNone {
		t.Error("those of an association")
	}
	if l := a.News(); len(l) != 1 || l[0].Event.What != api.EventClosed {
		t.Errorf("news %+v", l)
	}
}

func TestAsk(t *testing.T) {
	a, b := open(t)
	add := api.Ask{What: api.ParamAdd, Local: 101}
	if a.Ask(0, api.Ask{What: api.ParamAdd, Local: 102}, 1) != api.ErrInput || a.Ask(0, api.Ask{What: api.ParamAdd}, 1) != api.ErrInput || a.Ask(1, add, 1) != api.ErrNone || a.Ask(0, add, 1) != api.OK {
		t.Error("Ask")
	}
	calm(2, a, b)
	if x := b.At(0).Paths(); len(x) != 2 || x[1].Peer != 101 {
		t.Errorf("%+v", x)
	}
}

func TestNone(t *testing.T) {
	a, _ := open(t)
	for _, id := range []int{-1, 1, math.MaxInt} {
		if _, ok := a.Read(id, 1); ok || a.At(id) != nil || a.Send(id, api.Message{Data: "x"}, 1) != api.ErrNone || a.Shut(id, 1) != api.ErrNone || a.Abort(id, 1) != api.ErrNone || a.More(id, 1, 1) != api.ErrNone {
			t.Error("there is none", id)
		}
	}
}

func initOf(random string, params ...api.Param) api.Packet {
	c := api.Chunk{Type: api.ChunkInit, Tag: 77, Out: 2, In: 20, Tsn: 9, Rwnd: 5000, Params: append([]api.Param{{Type: api.ParamRandom, Value: random}}, params...)}
	return api.Packet{From: 5, To: 6, Chunks: []api.Chunk{c}}
}

var random = strings.Repeat("r", api.RandomBytes)

func TestInit(t *testing.T) {
	b := made(t, 2, 88, 89)
	b.Listen(6)
	strange := api.Param{Type: 0xc123, Value: "what"}
	give(b, 1, 2, 50, initOf(random, strange))
	d, p := one(t, b)
	c := p.Chunks[0]
	if d.From != 2 || d.To != 1 || p.From != 6 || p.To != 5 || p.Tag != 77 || c.Type != api.ChunkInitAck || c.Tag != 88 || c.Tsn != 89 || c.Rwnd != api.RoomIn || b.Many() != 0 {
		t.Fatalf("%+v %+v", d, p)
	}
	made, ok := param.Find(c.Params, api.ParamCookie)
	got, _, err := cookie.Get("key", made.Value, 50)
	drew, _ := param.Find(c.Params, api.ParamRandom)
	wanted := api.Cookie{Made: 50, Mine: 88, Yours: 77, MyTsn: 89, YourTsn: 9, Peer: 1, Local: 2, PeerPort: 5, MyPort: 6, Rwnd: 5000, Out: 16, In: 2, MyRandom: drew.Value, Random: random}
	if !ok || err != api.OK || got != wanted {
		t.Errorf("the cookie %+v %v", got, err)
	}
	told, ok := param.Find(c.Params, api.ParamUnknown)
	_, restart := param.Find(c.Params, api.ParamRestart)
	if !ok || told.Value != param.Put(strange) || !restart {
		t.Errorf("%+v", c.Params)
	}
	var many []api.Param
	for range 15 {
		many = append(many, api.Param{Type: 0xc123, Value: strings.Repeat("x", 80)})
	}
	give(b, 1, 2, 50, initOf(random, many...))
	if _, p := one(t, b); p.Chunks[0].Type != api.ChunkInitAck {
		t.Error("more is told than has room")
	}
}

func TestInitNot(t *testing.T) {
	b := made(t, 2)
	b.Listen(6)
	for n, change := range []func(p *api.Packet){
		func(p *api.Packet) { p.To = 7 }, func(p *api.Packet) { p.Chunks[0].Out = 0 }, func(p *api.Packet) { p.Chunks[0].In = 0 }, func(p *api.Packet) { p.Chunks[0].Params = nil }, func(p *api.Packet) { p.Chunks[0].Params[0].Value = "short" },
	} {
		p := initOf(random)
		change(&p)
		give(b, 1, 2, 5, p)
		if d, got := one(t, b); got.Tag != 77 || got.Chunks[0].Type != api.ChunkAbort || got.Chunks[0].Flags != 0 || d.To != 1 || got.From != p.To {
			t.Errorf("%d: %+v", n, got)
		}
	}
}

// echoOf is the packet with the cookie that b answers to an init.
func echoOf(t *testing.T, b *Host, now int, l ...api.Chunk) api.Packet {
	t.Helper()
	give(b, 1, 2, now, initOf(random))
	_, p := one(t, b)
	c, _ := param.Find(p.Chunks[0].Params, api.ParamCookie)
	return api.Packet{From: 5, To: 6, Tag: p.Chunks[0].Tag, Chunks: append([]api.Chunk{{Type: api.ChunkEcho, Data: c.Value}}, l...)}
}

func TestCookie(t *testing.T) {
	b := made(t, 2)
	b.Listen(6)
	data := api.Chunk{Flags: 3, Tsn: 9, Data: "behind it"}
	echo := echoOf(t, b, 0, data)
	give(b, 1, 2, api.CookieLife, echo)
	if b.Many() != 1 || b.At(0).State() != api.StateOpen {
		t.Fatal("it opens one")
	}
	if m, ok := b.Read(0, 1); !ok || m.Data != "behind it" {
		t.Error("what stands behind it is looked at then")
	}
	if d, p := one(t, b); p.Chunks[0].Type != api.ChunkEchoAck || p.Tag != 77 || d.To != 1 {
		t.Errorf("%+v", p)
	}
	echo.Chunks = echo.Chunks[:1]
	give(b, 1, 2, 5000, echo)
	if _, p := one(t, b); p.Chunks[0].Type != api.ChunkEchoAck || b.Many() != 1 {
		t.Error("it came already, and may be old then")
	}
	other := echoOf(t, b, 5000)
	give(b, 1, 2, 5000, other)
	if b.Many() != 2 {
		t.Error("another one with that tag, in which both ties stand, is new", b.Many())
	}
	b.Abort(0, 5000)
	b.Outs()
	give(b, 1, 2, 500, echo)
	if b.Many() != 2 {
		t.Error("a cookie opens twice")
	}
}

// again is how many associations b has behind a second cookie, of one with a tag.
func again(t *testing.T, tag uint32, params ...api.Param) int {
	t.Helper()
	b := made(t, 2)
	b.Listen(6)
	give(b, 1, 2, 0, echoOf(t, b, 0))
	b.Outs()
	p := initOf(random, params...)
	p.Chunks[0].Tag = tag
	give(b, 1, 2, 0, p)
	_, ack := one(t, b)
	c, _ := param.Find(ack.Chunks[0].Params, api.ParamCookie)
	give(b, 1, 2, 0, api.Packet{From: 5, To: 6, Tag: ack.Chunks[0].Tag, Chunks: []api.Chunk{{Type: api.ChunkEcho, Data: c.Value}}})
	return b.Many()
}

func TestAnotherOneAsks(t *testing.T) {
	restart := api.Param{Type: api.ParamRestart}
	if n := again(t, 78); n != 1 {
		t.Error("one that began anew opens one", n)
	}
	if n := again(t, 78, restart); n != 2 {
		t.Error("another one behind the same one between", n)
	}
	if n := again(t, 77, restart); n != 2 {
		t.Error("the same one, to which nobody answered", n)
	}
	if n := again(t, 77); n != 2 {
		t.Error("the same one, that may begin anew", n)
	}
}

func TestStale(t *testing.T) {
	b := made(t, 2)
	b.Listen(6)
	echo := echoOf(t, b, 10)
	give(b, 1, 2, 10+api.CookieLife+3, echo)
	_, p := one(t, b)
	if c := p.Chunks[0]; c.Type != api.ChunkError || c.Flags != 0 || p.Tag != 77 || c.Causes[0] != (api.Cause{Code: api.CauseStale, Info: "\x00\x00\x00\x03"}) || b.Many() != 0 {
		t.Errorf("%+v", p)
	}
}

func TestCookieNot(t *testing.T) {
	mirrored := func(b *Host, p api.Packet) bool {
		_, got := one(t, b)
		return got.Tag == p.Tag && reflect.DeepEqual(got.Chunks, []api.Chunk{{Type: api.ChunkAbort, Flags: api.FlagMirror}})
	}
	for n, change := range []func(p *api.Packet, from, to *api.Addr){
		func(p *api.Packet, from, to *api.Addr) { p.Tag++ }, func(p *api.Packet, from, to *api.Addr) { p.From++ }, func(p *api.Packet, from, to *api.Addr) { p.To++ },
		func(p *api.Packet, from, to *api.Addr) { *from = 9 }, func(p *api.Packet, from, to *api.Addr) { *to = 102 }, func(p *api.Packet, from, to *api.Addr) { p.Chunks[0].Data += "x" },
	} {
		b := made(t, 2)
		b.Listen(6)
		b.Listen(7)
		p := echoOf(t, b, 0)
		from, to := api.Addr(1), api.Addr(2)
		change(&p, &from, &to)
		give(b, from, to, 1, p)
		if b.Many() != 0 || !mirrored(b, p) {
			t.Errorf("%d opens one", n)
		}
	}
	b := made(t, 2)
	b.Listen(6)
	var l []api.Packet
	for range api.MostMade + 1 {
		l = append(l, echoOf(t, b, 0))
	}
	for n, p := range l {
		c, _, _ := cookie.Get("key", p.Chunks[0].Data, 0)
		c.PeerPort, c.Yours = 1000+n, uint32(1000+n)
		p.From, p.Chunks[0].Data = c.PeerPort, cookie.Put("key", c)
		give(b, 1, 2, 1, p)
		if n == api.MostMade && !mirrored(b, p) {
			t.Error("more than MostMade")
		}
		b.Outs()
	}
	if b.Many() != api.MostMade {
		t.Error("how many", b.Many())
	}
	asks := made(t, 2)
	asks.Connect(Want{MyPort: 6, Peer: 1, PeerPort: 5, Streams: 2}, 0)
	asks.Outs()
	p := echoOf(t, asks, 0)
	asks.Abort(0, 0)
	asks.Outs()
	give(asks, 1, 2, 1, p)
	if asks.Many() != 1 || !mirrored(asks, p) {
		t.Error("its port can't be asked")
	}
}

func TestBothAsk(t *testing.T) {
	for _, lose := range []int{-1, 0, 1} {
		a, b := made(t, 1), made(t, 2)
		a.Connect(want(), 0)
		b.Connect(Want{MyPort: 6, Peer: 1, PeerPort: 5, Streams: 2}, 0)
		tags := [2]uint32{a.At(0).Setup().Mine, b.At(0).Setup().Mine}
		hand(0, a, b)
		for n, h := range []*Host{a, b} {
			if n == lose {
				h.Outs()
			}
		}
		for now := range 100 {
			a.Tick(now)
			b.Tick(now)
			calm(now, a, b)
		}
		sa, sb := a.At(0).Setup(), b.At(0).Setup()
		if a.Many() != 1 || b.Many() != 1 || a.At(0).State() != api.StateOpen || b.At(0).State() != api.StateOpen || sa.Mine != tags[0] || sb.Mine != tags[1] || sa.Yours != sb.Mine || sb.Yours != sa.Mine || sa.YourTsn != sb.MyTsn {
			t.Errorf("lost %d: %d %d", lose, a.At(0).State(), b.At(0).State())
		}
		out, in := a.At(0).Streams()
		bOut, bIn := b.At(0).Streams()
		if out != 2 || in != 2 || bOut != 2 || bIn != 2 {
			t.Error("streams", out, in, bOut, bIn)
		}
	}
}

// A host may ask itself, as any other one: from one port to another one on which it can be asked, over one address or two.
func TestAsksItself(t *testing.T) {
	for _, x := range []Want{{MyPort: 5, Peer: 1, PeerPort: 6, Streams: 3}, {MyPort: 5, Peer: 101, PeerPort: 6, Streams: 3}, {MyPort: 6, Peer: 101, PeerPort: 6, Streams: 3}, {Local: 1, MyPort: 5, Peer: 1, PeerPort: 6, Streams: 3, Plain: true}} {
		h := made(t, 1)
		h.Listen(6)
		if id, err := h.Connect(x, 0); id != 0 || err != api.OK {
			t.Fatal("Connect", id, err)
		}
		if id, err := h.Connect(x, 0); id != -1 || err != api.ErrInput || h.Many() != 1 {
			t.Error("an association of these is there", id, err)
		}
		calm(0, h)
		if h.Many() != 2 || h.At(0).State() != api.StateOpen || h.At(1).State() != api.StateOpen {
			t.Fatal("not open", x)
		}
		if a, b := h.At(0).Setup(), h.At(1).Setup(); a.Mine != b.Yours || a.Yours != b.Mine || a.Mine == b.Mine || a.MyPort != b.PeerPort || a.Local != b.Peer || a.Peer != b.Local {
			t.Errorf("%+v %+v", a, b)
		}
		for id, other := range []int{1, 0} {
			if h.Send(id, api.Message{Data: "hello"}, 1) != api.OK {
				t.Error("Send", id)
			}
			calm(1, h)
			if m, ok := h.Read(other, 1); !ok || m.Data != "hello" {
				t.Error("Read", other, m)
			}
			if _, ok := h.Read(id, 1); ok {
				t.Error("who sent it reads it", id)
			}
		}
		h.Shut(0, 2)
		for now := range 10 {
			h.Tick(now)
			calm(now, h)
		}
		if h.At(0).State() != api.StateClosed || h.At(1).State() != api.StateClosed {
			t.Error("not shut down", x)
		}
	}
	h := made(t, 1)
	h.Connect(Want{MyPort: 5, Peer: 1, PeerPort: 6, Streams: 3}, 0)
	calm(0, h)
	if h.Many() != 1 || h.At(0).State() != api.StateClosed {
		t.Error("its port can't be asked")
	}
}

// From a port to that port, at one address, both sides are one association: it is in StateWait when it is asked, and answers with its own numbers.
func TestIsItsOwnOtherSide(t *testing.T) {
	for _, listens := range []bool{false, true} {
		h := made(t, 1)
		if listens {
			h.Listen(5)
		}
		h.Connect(Want{MyPort: 5, Peer: 1, PeerPort: 5, Streams: 3}, 0)
		calm(0, h)
		if s := h.At(0).Setup(); h.Many() != 1 || h.At(0).State() != api.StateOpen || s.Mine != s.Yours || s.MyTsn != s.YourTsn {
			t.Fatalf("not open %+v", s)
		}
		for n := range 5 {
			if h.Send(0, api.Message{Data: strings.Repeat("x", 500+n)}, n) != api.OK {
				t.Error("Send", n)
			}
			h.Tick(n)
			calm(n, h)
		}
		for n := range 5 {
			if m, ok := h.Read(0, 5); !ok || len(m.Data) != 500+n {
				t.Error("Read", n)
			}
		}
		if _, ok := h.Read(0, 5); ok {
			t.Error("it is read once")
		}
		h.Shut(0, 6)
		for now := 6; now < 10; now++ {
			h.Tick(now)
			calm(now, h)
		}
		if h.At(0).State() != api.StateClosed {
			t.Error("not shut down")
		}
	}
}

// What has an own address on the other side, too, is of another host: one between stands there.
func TestOtherHostOfOwnAddress(t *testing.T) {
	a, b := made(t, 1), made(t, 1)
	b.Listen(6)
	if id, err := a.Connect(Want{MyPort: 5, Peer: 1, PeerPort: 6, Streams: 3}, 0); id != 0 || err != api.OK {
		t.Fatal("Connect", id, err)
	}
	between := func(from, to *Host) {
		for _, d := range from.Outs() {
			switch {
			case from == a:
				d.From = 50
			default:
				d.To = 1
			}
			to.Take(d, 0)
		}
	}
	for range 3 {
		between(a, b)
		between(b, a)
	}
	if a.At(0).State() != api.StateOpen || b.At(0).State() != api.StateOpen || a.Many() != 1 || b.At(0).Setup().Peer != 50 {
		t.Error("not open")
	}
}

func TestStray(t *testing.T) {
	b := made(t, 2)
	mirrored := []api.Chunk{{Type: api.ChunkAbort, Flags: api.FlagMirror}}
	done := []api.Chunk{{Type: api.ChunkShutDone, Flags: api.FlagMirror}}
	for n, c := range []struct{ came, answer []api.Chunk }{
		{[]api.Chunk{{Data: "x", Flags: 3}}, mirrored}, {[]api.Chunk{{Type: api.ChunkBeat}}, mirrored}, {[]api.Chunk{{Type: api.ChunkEcho, Data: "no cookie"}}, mirrored}, {[]api.Chunk{{Type: api.ChunkSack}}, mirrored},
		{[]api.Chunk{{Type: api.ChunkShut}}, mirrored}, {[]api.Chunk{{Type: api.ChunkShutAck}}, done}, {[]api.Chunk{{Type: 200}}, mirrored},
		{[]api.Chunk{{Type: api.ChunkAbort}}, nil}, {[]api.Chunk{{Type: api.ChunkSack}, {Type: api.ChunkAbort}}, nil}, {[]api.Chunk{{Type: api.ChunkError}}, nil}, {[]api.Chunk{{Type: api.ChunkShutDone}}, nil}, {[]api.Chunk{{Type: api.ChunkEchoAck}}, nil},
		{[]api.Chunk{{Type: api.ChunkInitAck, Tag: 1, Out: 1, In: 1}}, nil}, {[]api.Chunk{{Type: api.ChunkConf}}, nil}, {[]api.Chunk{{Type: api.ChunkConfAck}}, nil}, {[]api.Chunk{{Type: api.ChunkShutAck}, {Type: api.ChunkError}}, nil},
	} {
		give(b, 1, 102, 5, api.Packet{From: 5, To: 6, Tag: 44, Chunks: c.came})
		l := b.Outs()
		if c.answer == nil && len(l) != 0 {
			t.Errorf("%d is answered", n)
		}
		if c.answer != nil {
			if len(l) != 1 || l[0].From != 102 || l[0].To != 1 || !reflect.DeepEqual(get(t, l[0]), api.Packet{From: 6, To: 5, Tag: 44, Chunks: c.answer}) {
				t.Errorf("%d: %+v", n, l)
			}
		}
	}
	if b.Take(api.Datagram{From: 1, To: 2, S: "nothing"}, 5); b.Bad() != 1 || len(b.Outs()) != 0 {
		t.Error("bytes that say nothing")
	}
	if b.Take(api.Datagram{From: 1, To: 3, S: "nothing"}, 5); b.Bad() != 1 {
		t.Error("not to one of its addresses")
	}
	if give(b, 1, 3, 5, api.Packet{From: 5, To: 6, Tag: 44, Chunks: []api.Chunk{{Type: api.ChunkBeat}}}); len(b.Outs()) != 0 {
		t.Error("not to one of its addresses")
	}
}

func TestClash(t *testing.T) {
	for _, why := range []int{api.CauseCollision, api.CausePorts} {
		a := made(t, 1, 50)
		a.Connect(want(), 0)
		x := want()
		x.MyPort = 6
		a.Connect(x, 0)
		a.Outs()
		for n := range api.MaxInit {
			s := a.At(0).Setup()
			clash := api.Chunk{Type: api.ChunkAbort, Flags: api.FlagBetween, Causes: []api.Cause{{Code: why}}}
			give(a, 2, 1, 1, api.Packet{From: 6, To: s.MyPort, Tag: s.Mine, Chunks: []api.Chunk{clash}})
			d, p := one(t, a)
			now := a.At(0).Setup()
			if now.Mine == s.Mine || p.Chunks[0].Tag != now.Mine || d.To != 2 || p.From != now.MyPort {
				t.Errorf("another tag %+v", now)
			}
			if port := map[int]int{api.CauseCollision: 5, api.CausePorts: 7 + n}[why]; now.MyPort != port {
				t.Error("the port", now.MyPort)
			}
		}
		s := a.At(0).Setup()
		give(a, 2, 1, 1, api.Packet{From: 6, To: s.MyPort, Tag: s.Mine, Chunks: []api.Chunk{{Type: api.ChunkAbort, Flags: api.FlagBetween, Causes: []api.Cause{{Code: why}}}}})
		l := a.News()
		if len(a.Outs()) != 0 || len(l) != api.MaxInit+2 || l[len(l)-1].Event.What != api.EventFailed || l[0].Event != (api.Event{What: api.EventClash, Why: why}) {
			t.Errorf("it failed %+v", l)
		}
	}
}

func TestNil(t *testing.T) {
	var h *Host
	h.Tick(1)
	h.Take(api.Datagram{}, 1)
	id, err := h.Connect(want(), 1)
	_, read := h.Read(0, 1)
	if id != -1 || err != api.ErrInput || read || h.Listen(1) != api.ErrInput || h.Port(1) || h.Addrs() != nil || h.Many() != 0 || h.Bad() != 0 || h.At(0) != nil || h.Outs() != nil || h.News() != nil {
		t.Error("nil")
	}
	if h.Send(0, api.Message{}, 1) != api.ErrInput || h.Shut(0, 1) != api.ErrInput || h.Abort(0, 1) != api.ErrInput || h.Ask(0, api.Ask{}, 1) != api.ErrInput || h.More(0, 1, 1) != api.ErrInput {
		t.Error("nil: ErrInput")
	}
}
