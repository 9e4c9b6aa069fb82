package assoc

import (
	"math"
	"reflect"
	"slices"
	"strings"
	"testing"

	"crossway/api"
	"crossway/auth"
	"crossway/cause"
	"crossway/packet"
	"crossway/param"
)

const (
	atA = 1
	atB = 2
)

var (
	randomA = strings.Repeat("a", api.RandomBytes)
	randomB = strings.Repeat("b", api.RandomBytes)
)

func setupA() api.Setup {
	return api.Setup{Mine: 11, MyTsn: 100, Local: atA, Peer: atB, MyPort: 5, PeerPort: 6, Out: 3, In: 3, MyRandom: randomA}
}

func setupB() api.Setup {
	return api.Setup{Mine: 22, Yours: 11, MyTsn: 1<<32 - 2, YourTsn: 100, Local: atB, Peer: atA, MyPort: 6, PeerPort: 5, Out: 3, In: 3, Rwnd: api.RoomIn, MyRandom: randomB, Random: randomA}
}

func answerOf(change func(c *api.Chunk)) api.Packet {
	c := api.Chunk{Type: api.ChunkInitAck, Tag: 22, Rwnd: api.RoomIn, Out: 3, In: 3, Tsn: 1<<32 - 2,
		Params: []api.Param{{Type: api.ParamCookie, Value: "cookie"}, {Type: api.ParamRandom, Value: randomB}, {Type: api.ParamRestart}}}
	if change != nil {
		change(&c)
	}
	return api.Packet{From: 6, To: 5, Tag: 11, Chunks: []api.Chunk{c}}
}

// pair is two that are open, with nothing to be sent and nothing told.
func pair(t *testing.T) (*Assoc, *Assoc) {
	t.Helper()
	a := New(setupA(), 0)
	if !a.Take(answerOf(nil), atA, atB, 0) {
		t.Fatal("the answer is not ours")
	}
	b := Open(setupB(), 0)
	for _, o := range b.Outs() {
		a.Take(o.P, atA, atB, 0)
	}
	if a.State() != api.StateOpen || b.State() != api.StateOpen {
		t.Fatal("not open", a.State(), b.State())
	}
	a.Outs()
	a.Events()
	b.Events()
	return a, b
}

// hand lets all that one sent come to the other one, but what is not let through: how many packets came.
func hand(t *testing.T, from, to *Assoc, now int, through func(o api.Out) bool) int {
	t.Helper()
	many := 0
	for _, o := range from.Outs() {
		p, err := packet.Get(packet.Put(o.P))
		if err != api.OK {
			t.Fatalf("%+v is no packet", o.P)
		}
		if through != nil && !through(o) {
			continue
		}
		if !to.Take(p, o.Peer, o.Local, now) {
			t.Fatalf("%+v is not of it", p)
		}
		many++
	}
	return many
}

// calm lets all come until nothing is sent any more.
func calm(t *testing.T, a, b *Assoc, now int) {
	t.Helper()
	for range 100 {
		if hand(t, a, b, now, nil)+hand(t, b, a, now, nil) == 0 {
			return
		}
	}
	t.Fatal("it is not calm")
}

func types(l []api.Out) []int {
	var all []int
	for _, o := range l {
		for _, c := range o.P.Chunks {
			all = append(all, c.Type)
		}
	}
	return all
}

func whats(a *Assoc) []int {
	var l []int
	for _, e := range a.Events() {
		l = append(l, e.What)
	}
	return l
}

func of(a *Assoc, l ...api.Chunk) api.Packet {
	s := a.Setup()
	return api.Packet{From: s.PeerPort, To: s.MyPort, Tag: s.Mine, Chunks: l}
}

func come(t *testing.T, a *Assoc, now int, l ...api.Chunk) {
	t.Helper()
	s := a.Setup()
	if !a.Take(of(a, l...), s.Local, s.Peer, now) {
		t.Fatal("it is not of it")
	}
}

func between(code int, mirror bool, typ int) api.Chunk {
	c := api.Chunk{Type: typ, Flags: api.FlagBetween, Causes: []api.Cause{{Code: code}}}
	if mirror {
		c.Flags |= api.FlagMirror
	}
	return c
}

func TestNew(t *testing.T) {
	a := New(setupA(), 7)
	l := a.Outs()
	want := api.Out{Local: atA, Peer: atB, P: api.Packet{From: 5, To: 6, Chunks: []api.Chunk{{Type: api.ChunkInit, Tag: 11, Rwnd: api.RoomIn, Out: 3, In: 3, Tsn: 100,
		Params: []api.Param{{Type: api.ParamRandom, Value: randomA}, {Type: api.ParamRestart}}}}}}
	if len(l) != 1 || !reflect.DeepEqual(l[0], want) || a.State() != api.StateWait || len(a.Outs()) != 0 {
		t.Errorf("New %+v", l)
	}
	s := setupA()
	s.Plain = true
	if l := New(s, 7).Outs(); len(l) != 1 || len(l[0].P.Chunks[0].Params) != 1 {
		t.Error("one that may begin anew")
	}
	if a.Send(api.Message{Data: "x"}, 0) != api.ErrNone || a.Shut(0) != api.ErrNone || a.Ask(api.Ask{What: api.ParamAdd}, 0) != api.ErrNone || a.More(1, 0) != api.ErrNone || a.Left() != 0 {
		t.Error("it is not open")
	}
}

func TestOpening(t *testing.T) {
	a := New(setupA(), 0)
	a.Outs()
	a.Take(answerOf(func(c *api.Chunk) { c.Out, c.In = 2, 16 }), atA, atB, 3)
	if s := a.Setup(); a.State() != api.StateEchoed || s.Yours != 22 || s.YourTsn != 1<<32-2 || s.Random != randomB || s.Rwnd != api.RoomIn {
		t.Errorf("the answer tells %+v", s)
	}
	if out, in := a.Streams(); out != 3 || in != 2 {
		t.Error("streams", out, in)
	}
	l := a.Outs()
	if len(l) != 1 || !reflect.DeepEqual(l[0].P, api.Packet{From: 5, To: 6, Tag: 22, Chunks: []api.Chunk{{Type: api.ChunkEcho, Data: "cookie"}}}) {
		t.Errorf("the cookie %+v", l)
	}
	if a.Take(answerOf(nil), atA, atB, 3); len(a.Outs()) != 0 {
		t.Error("a second answer")
	}
	if len(a.Events()) != 0 {
		t.Error("nothing happened yet")
	}
	come(t, a, 5, api.Chunk{Type: api.ChunkEchoAck})
	if a.State() != api.StateOpen || !slices.Equal(whats(a), []int{api.EventUp}) || len(a.Outs()) != 0 {
		t.Error("it is open")
	}
	if come(t, a, 5, api.Chunk{Type: api.ChunkEchoAck}); len(a.Events()) != 0 {
		t.Error("it opens once")
	}
	b := Open(setupB(), 5)
	if l := b.Outs(); b.State() != api.StateOpen || !slices.Equal(types(l), []int{api.ChunkEchoAck}) || l[0].P.Tag != 11 || !slices.Equal(whats(b), []int{api.EventUp}) {
		t.Error("one that was asked")
	}
	b.Echoed(6)
	if l := b.Outs(); !slices.Equal(types(l), []int{api.ChunkEchoAck}) || l[0].Local != atB || l[0].Peer != atA {
		t.Error("Echoed")
	}
	if x := b.Paths(); len(x) != 1 || x[0].BeatAt != 5+api.RtoFirst+api.BeatEvery || b.First() != 0 {
		t.Errorf("paths %+v", x)
	}
}

func TestAnswerMissing(t *testing.T) {
	for n, change := range []func(c *api.Chunk){
		func(c *api.Chunk) { c.Params = c.Params[1:] }, func(c *api.Chunk) { c.Params = c.Params[:1] }, func(c *api.Chunk) { c.Params[0].Value = "" },
		func(c *api.Chunk) { c.Params[0].Value = strings.Repeat("x", api.MostInfo+1) }, func(c *api.Chunk) { c.Params[1].Value = "short" }, func(c *api.Chunk) { c.Out = 0 }, func(c *api.Chunk) { c.In = 0 },
	} {
		a := New(setupA(), 0)
		a.Outs()
		a.Take(answerOf(change), atA, atB, 1)
		l := a.Outs()
		if a.State() != api.StateClosed || len(l) != 1 || l[0].P.Tag != 22 || !reflect.DeepEqual(l[0].P.Chunks, []api.Chunk{{Type: api.ChunkAbort, Causes: []api.Cause{{Code: api.CauseMissing}}}}) || !slices.Equal(whats(a), []int{api.EventFailed}) {
			t.Errorf("%d: %+v", n, l)
		}
	}
	a := New(setupA(), 0)
	a.Take(answerOf(func(c *api.Chunk) { c.Params[0].Value = strings.Repeat("x", api.MostInfo) }), atA, atB, 1)
	if a.State() != api.StateEchoed {
		t.Error("a cookie of as many bytes as may be")
	}
}

// resent is the times at which something is sent, ticking up to a time.
func resent(a *Assoc, from, to int) []int {
	var l []int
	for now := from; now <= to; now++ {
		a.Tick(now)
		for range a.Outs() {
			l = append(l, now)
		}
	}
	return l
}

func TestNobodyAnswers(t *testing.T) {
	want := []int{30, 90, 210, 450, 690}
	a := New(setupA(), 0)
	a.Outs()
	if l := resent(a, 1, 929); !slices.Equal(l, want) || a.State() != api.StateWait {
		t.Errorf("an init: %v", l)
	}
	a.Tick(930)
	if a.State() != api.StateClosed || !slices.Equal(whats(a), []int{api.EventFailed}) || len(a.Outs()) != 0 {
		t.Error("it failed")
	}
	a = New(setupA(), -40)
	a.Tick(-10)
	a.Take(answerOf(nil), atA, atB, 0)
	a.Outs()
	if l := resent(a, 1, 929); !slices.Equal(l, want) || a.State() != api.StateEchoed {
		t.Errorf("a cookie: %v", l)
	}
	a.Tick(930)
	if a.State() != api.StateClosed || !slices.Equal(whats(a), []int{api.EventFailed}) {
		t.Error("it failed")
	}
}

// Times may be so far apart that their difference goes round.
func TestFarApart(t *testing.T) {
	a := New(setupA(), math.MinInt)
	a.Outs()
	if a.Tick(math.MaxInt); !slices.Equal(types(a.Outs()), []int{api.ChunkInit}) {
		t.Error("nobody answers an init for very long")
	}
	a = New(setupA(), 5)
	a.Outs()
	if a.Tick(math.MinInt); len(a.Outs()) != 0 {
		t.Error("an init is sent again ahead of when it was sent")
	}
	a, _ = pair(t)
	send(t, a, 5, "x")
	a.Outs()
	if a.Tick(math.MinInt); a.Stats().Late != 0 {
		t.Error("data are late ahead of when they were sent")
	}
	if a.Tick(math.MaxInt); a.Stats().Late != 1 {
		t.Error("data are late", a.Stats())
	}
}

func TestClash(t *testing.T) {
	for _, why := range []int{api.CauseCollision, api.CausePorts} {
		a := New(setupA(), 0)
		a.Outs()
		come(t, a, 1, between(why, false, api.ChunkAbort))
		if e := a.Events(); len(e) != 1 || e[0] != (api.Event{What: api.EventClash, Why: why}) || a.State() != api.StateWait {
			t.Errorf("%+v", e)
		}
		for n := range api.MaxInit {
			if !a.Retag(uint32(50+n), 70+n, 2) {
				t.Fatal("Retag", n)
			}
			l := a.Outs()
			if len(l) != 1 || l[0].P.From != 70+n || l[0].P.Chunks[0].Tag != uint32(50+n) || a.Setup().Mine != uint32(50+n) || a.Setup().MyPort != 70+n {
				t.Errorf("Retag %+v", l)
			}
		}
		if a.Retag(99, 0, 2) || a.State() != api.StateClosed || !slices.Equal(whats(a), []int{api.EventFailed}) || len(a.Outs()) != 0 {
			t.Error("often enough")
		}
	}
	a := New(setupA(), 0)
	a.Outs()
	if a.Retag(0, 0, 1) || !a.Retag(12, 0, 1) || a.Setup().MyPort != 5 {
		t.Error("Retag")
	}
	if a.Take(api.Packet{From: 6, To: 5, Tag: 11, Chunks: []api.Chunk{between(api.CauseCollision, false, api.ChunkAbort)}}, atA, atB, 1) {
		t.Error("the old tag is nobody's")
	}
	if come(t, a, 1, between(api.CauseState, false, api.ChunkAbort)); len(a.Events()) != 0 || a.State() != api.StateWait {
		t.Error("another cause")
	}
	x, _ := pair(t)
	if come(t, x, 1, between(api.CauseCollision, false, api.ChunkAbort)); x.State() != api.StateOpen || len(x.Events()) != 0 || x.Retag(5, 0, 1) {
		t.Error("one that is open")
	}
}

func TestAnew(t *testing.T) {
	for n, c := range []api.Chunk{between(api.CauseState, true, api.ChunkError), {Type: api.ChunkError, Causes: []api.Cause{cause.Stale(4)}}} {
		a := New(setupA(), 0)
		for k := range api.MaxInit + 1 {
			a.Outs()
			a.Take(answerOf(nil), atA, atB, 0)
			a.Outs()
			p := of(a, c)
			if n == 0 {
				p.Tag = 22
			}
			if !a.Take(p, atA, atB, 1) {
				t.Fatal("it is not of it")
			}
			if l := a.Outs(); k < api.MaxInit && (a.State() != api.StateWait || !slices.Equal(types(l), []int{api.ChunkInit}) || l[0].P.Chunks[0].Tag != 11 || a.Setup().Yours != 0) {
				t.Errorf("anew %+v", l)
			}
		}
		if a.State() != api.StateClosed || !slices.Equal(whats(a), []int{api.EventFailed}) {
			t.Error("it counts")
		}
	}
	a := New(setupA(), 0)
	a.Take(answerOf(nil), atA, atB, 0)
	come(t, a, 1, api.Chunk{Type: api.ChunkError, Causes: []api.Cause{{Code: api.CauseState}}})
	if a.State() != api.StateEchoed {
		t.Error("an error that is not of one between")
	}
}

func TestAborts(t *testing.T) {
	a, b := pair(t)
	if a.Abort() != api.OK || a.State() != api.StateClosed || !slices.Equal(whats(a), []int{api.EventClosed}) || a.Abort() != api.ErrNone {
		t.Error("Abort")
	}
	hand(t, a, b, 1, nil)
	if e := b.Events(); len(e) != 1 || e[0] != (api.Event{What: api.EventAbort, Why: api.CauseUser}) || b.State() != api.StateClosed {
		t.Errorf("%+v", e)
	}
	w := New(setupA(), 0)
	w.Outs()
	if w.Abort() != api.OK || len(w.Outs()) != 0 || !slices.Equal(whats(w), []int{api.EventClosed}) {
		t.Error("Abort of one that asks")
	}
	x, _ := pair(t)
	p := of(x, api.Chunk{Type: api.ChunkAbort, Flags: api.FlagMirror})
	if x.Take(p, atA, atB, 1) || x.State() != api.StateOpen {
		t.Error("a mirrored abort with the own tag")
	}
	p.Tag = 22
	if !x.Take(p, atA, atB, 1) || x.State() != api.StateClosed {
		t.Error("a mirrored abort")
	}
	if e := x.Events(); len(e) != 1 || e[0] != (api.Event{What: api.EventAbort}) {
		t.Errorf("%+v", e)
	}
}

func TestKnows(t *testing.T) {
	a, _ := pair(t)
	ack := api.Chunk{Type: api.ChunkEchoAck}
	conf := api.Chunk{Type: api.ChunkConf, Params: []api.Param{param.Addr(0), param.Tags(5, 22, 11)}}
	p := of(a, ack)
	if !a.Knows(p, atA, atB) || !a.Knows(p, 77, atB) || a.Knows(p, atA, 77) || !a.Knows(of(a, ack, conf), 78, 77) {
		t.Error("addresses")
	}
	conf.Params[1] = param.Tags(5, 11, 22)
	if a.Knows(of(a, conf), atA, 77) {
		t.Error("tags, turned round")
	}
	for n, change := range []func(p *api.Packet){func(p *api.Packet) { p.From++ }, func(p *api.Packet) { p.To++ }, func(p *api.Packet) { p.Tag = 22 }, func(p *api.Packet) { p.Tag = 0 }} {
		q := of(a, ack)
		change(&q)
		if a.Knows(q, atA, atB) || a.Take(q, atA, atB, 1) {
			t.Error("packet", n)
		}
	}
	a.Abort()
	if a.Knows(p, atA, atB) {
		t.Error("one that is closed knows nothing")
	}
}

func TestBoth(t *testing.T) {
	c := api.Cookie{Mine: 11, Yours: 33, YourTsn: 500, Rwnd: 4000, Out: 2, In: 1, Random: randomB}
	for _, echoed := range []bool{false, true} {
		a := New(setupA(), 0)
		if echoed {
			a.Take(answerOf(nil), atA, atB, 0)
		}
		a.Outs()
		if !a.Both(c, 3) || a.State() != api.StateOpen || !slices.Equal(whats(a), []int{api.EventUp}) || !slices.Equal(types(a.Outs()), []int{api.ChunkEchoAck}) {
			t.Error("Both")
		}
		if s := a.Setup(); s.Yours != 33 || s.YourTsn != 500 || s.Rwnd != 4000 || s.Random != randomB {
			t.Errorf("%+v", s)
		}
		if out, in := a.Streams(); out != 2 || in != 1 {
			t.Error("streams", out, in)
		}
		if a.Both(c, 3) {
			t.Error("one that is open")
		}
	}
}

func TestNil(t *testing.T) {
	var a *Assoc
	a.Tick(1)
	a.Echoed(1)
	out, in := a.Streams()
	_, read := a.Read(1)
	if a.State() != api.StateClosed || a.Setup() != (api.Setup{}) || a.Paths() != nil || a.First() != 0 || out != 0 || in != 0 || a.Stats() != (api.Stats{}) || a.Left() != 0 || a.Outs() != nil || a.Events() != nil || read {
		t.Error("nil")
	}
	if a.Send(api.Message{}, 1) != api.ErrNone || a.Shut(1) != api.ErrNone || a.Abort() != api.ErrNone || a.Ask(api.Ask{}, 1) != api.ErrNone || a.More(1, 1) != api.ErrNone || a.Knows(api.Packet{}, 1, 2) || a.Take(api.Packet{}, 1, 2, 3) || a.Retag(1, 2, 3) || a.Both(api.Cookie{}, 1) {
		t.Error("nil answers ErrNone")
	}
}

func TestSealsAreAsked(t *testing.T) {
	a, b := pair(t)
	b.Ask(api.Ask{What: api.ParamAdd, Local: atB}, 1)
	l := b.Outs()
	if !slices.Equal(types(l), []int{api.ChunkAuth, api.ChunkConf}) {
		t.Fatal("a request is sealed", types(l))
	}
	p := l[0].P
	if got := auth.Pass(auth.Key(randomA, randomB), p.Chunks); len(got) != 1 {
		t.Error("by the key of both")
	}
	a.Take(of(a, p.Chunks[1]), atA, atB, 1)
	if len(a.Outs()) != 0 {
		t.Error("a request without a seal")
	}
	a.Take(p, atA, atB, 1)
	if l := a.Outs(); !slices.Equal(types(l), []int{api.ChunkAuth, api.ChunkConfAck}) {
		t.Error("a request with its seal")
	}
}
