package assoc

import (
	"reflect"
	"slices"
	"testing"

	"crossway/api"
	"crossway/asconf"
	"crossway/auth"
	"crossway/cause"
	"crossway/octet"
	"crossway/param"
)

func keyed(l ...api.Chunk) []api.Chunk { return auth.Sign(auth.Key(randomA, randomB), l) }

func last(t *testing.T, a *Assoc, typ int) api.Out {
	t.Helper()
	l := a.Outs()
	for n := len(l) - 1; n >= 0; n-- {
		for _, c := range l[n].P.Chunks {
			if c.Type == typ {
				l[n].P.Chunks = []api.Chunk{c}
				return l[n]
			}
		}
	}
	t.Fatalf("no chunk %d in %v", typ, types(l))
	return api.Out{}
}

func TestBeats(t *testing.T) {
	a, b := pair(t)
	if l := resent(a, 1, 89); len(l) != 0 {
		t.Error("a heartbeat", l)
	}
	a.Tick(90)
	o := last(t, a, api.ChunkBeat)
	if o.P.Chunks[0].Data != octet.U32(atA)+octet.U32(atB)+octet.U32(a.Paths()[0].Beat) || a.Paths()[0].Beat == 0 || a.Paths()[0].BeatSent != 90 {
		t.Errorf("%+v", o)
	}
	b.Take(of(b, o.P.Chunks...), 7, atA, 91)
	back := last(t, b, api.ChunkBeatAck)
	if back.Local != 7 || back.Peer != atA || back.P.Chunks[0].Data != o.P.Chunks[0].Data {
		t.Errorf("it is answered where it came from %+v", back)
	}
	wrong := back.P.Chunks[0]
	wrong.Data = octet.U32(atA) + octet.U32(atB) + octet.U32(99)
	if come(t, a, 95, wrong); a.Stats().Backs != 0 || a.Paths()[0].State != api.PathNew {
		t.Error("just the answer with these is one")
	}
	come(t, a, 100, back.P.Chunks[0])
	if x := a.Paths()[0]; x.State != api.PathActive || x.Rto.Mean != 10 || x.Beat != 0 || x.BeatAt != 180 {
		t.Errorf("it is good, and measured %+v", x)
	}
	if come(t, a, 110, back.P.Chunks[0]); a.Stats() != (api.Stats{Beats: 1, Backs: 1}) {
		t.Errorf("%+v", a.Stats())
	}
	if l := resent(a, 101, 180); !slices.Equal(l, []int{180}) {
		t.Error("the next one", l)
	}
	if l := resent(a, 181, 270); !slices.Equal(l, []int{270}) {
		t.Error("and the next one", l)
	}
	if x := a.Paths()[0]; x.Errors != 1 || x.Rto.Wait != 60 || x.BeatAt != 270+60+60 || x.Cwnd != api.CwndFirst {
		t.Errorf("the last one was not answered %+v", x)
	}
	for now := 271; now < 9000 && a.State() == api.StateOpen; now++ {
		a.Tick(now)
	}
	if !slices.Equal(whats(a), []int{api.EventLost}) {
		t.Error("that is an error")
	}
}

func TestAdd(t *testing.T) {
	a, b := pair(t)
	if a.Ask(api.Ask{What: 5, Local: 3}, 1) != api.ErrInput {
		t.Error("another kind")
	}
	if a.Ask(api.Ask{What: api.ParamAdd, Local: 3}, 10) != api.OK {
		t.Fatal("Ask")
	}
	if x := a.Paths(); len(x) != 2 || x[1].Local != 3 || x[1].Peer != atB || x[1].State != api.PathNew {
		t.Errorf("a path is made %+v", x)
	}
	l := a.Outs()
	if len(l) != 1 || l[0].Local != 3 || l[0].Peer != atB || l[0].P.Chunks[1].Tsn != 100 {
		t.Fatalf("it goes from its own address %+v", l)
	}
	b.Take(l[0].P, atB, 33, 11)
	if x := b.Paths(); len(x) != 2 || x[1].Local != atB || x[1].Peer != 33 || x[1].State != api.PathActive {
		t.Errorf("of 0 it is good %+v", x)
	}
	lb := b.Outs()
	if len(lb) != 1 || lb[0].Local != atB || lb[0].Peer != 33 {
		t.Fatalf("it is answered there %+v", lb)
	}
	b.Take(l[0].P, atB, 34, 11)
	if again := b.Outs(); len(again) != 1 || again[0].Peer != 34 || !reflect.DeepEqual(again[0].P, lb[0].P) || len(b.Paths()) != 2 {
		t.Errorf("the same one again %+v", again)
	}
	a.Take(lb[0].P, 3, atB, 12)
	if e := a.Events(); len(e) != 1 || e[0] != (api.Event{What: api.EventConf, Ask: api.Ask{What: api.ParamAdd, Local: 3}, Done: true}) || a.Paths()[1].State != api.PathActive || a.First() != 0 {
		t.Errorf("answered %+v", e)
	}
	a.Tick(13)
	if o := last(t, a, api.ChunkBeat); o.Local != 3 {
		t.Error("a heartbeat over a new path at once")
	}
	b.Tick(13)
	if o := last(t, b, api.ChunkBeat); o.Peer != 33 {
		t.Error("a heartbeat over a new path at once")
	}
}

func TestSackAheadOfBeat(t *testing.T) {
	a, _ := pair(t)
	a.Ask(api.Ask{What: api.ParamAdd, Local: 3}, 10)
	a.Outs()
	a.Take(of(a, api.Chunk{Type: api.ChunkSack, Tsn: 99}), 3, atB, 12)
	if x := a.Paths()[1]; x.BeatAt != 12+30+60 {
		t.Errorf("%+v", x)
	}
	if a.Tick(13); len(a.Outs()) != 0 {
		t.Error("a heartbeat at once")
	}
}

func TestFirstAndOnly(t *testing.T) {
	a, b := pair(t)
	a.Ask(api.Ask{What: api.ParamAdd, Local: 3}, 10)
	b.Take(a.Outs()[0].P, atB, 33, 10)
	a.Take(b.Outs()[0].P, 3, atB, 10)
	a.Ask(api.Ask{What: api.ParamFirst, Local: 3}, 10)
	a.Ask(api.Ask{What: api.ParamDelete, Local: 3}, 10)
	l := a.Outs()
	if len(l) != 1 {
		t.Fatal("one at a time", len(l))
	}
	b.Take(l[0].P, atB, 33, 10)
	if b.First() != 1 {
		t.Error("that path is the first one")
	}
	a.Take(b.Outs()[0].P, 3, atB, 10)
	if a.First() != 1 || a.used().local != 3 {
		t.Error("it is the first one here, too")
	}
	l = a.Outs()
	if len(l) != 1 {
		t.Fatal("the next request")
	}
	send(t, a, 11, "data")
	send(t, b, 11, "data")
	b.Take(l[0].P, atB, 33, 12)
	if x := b.Paths(); len(x) != 1 || x[0].Peer != 33 || b.First() != 0 {
		t.Errorf("all but the one that it came over %+v", x)
	}
	a.Take(last(t, b, api.ChunkConfAck).P, 3, atB, 12)
	if len(a.Paths()) != 2 {
		t.Error("an answer without a seal")
	}
	b.Take(l[0].P, atB, 33, 12)
	a.Take(b.Outs()[0].P, 3, atB, 12)
	if x := a.Paths(); len(x) != 1 || x[0].Local != 3 || a.First() != 0 {
		t.Errorf("all from other own addresses go %+v", x)
	}
	if e := a.Events(); len(e) != 3 || e[2].Ask.What != api.ParamDelete || !e[2].Done {
		t.Errorf("%+v", e)
	}
}

func request(id uint32, l ...api.Param) api.Chunk {
	return api.Chunk{Type: api.ChunkConf, Tsn: id, Params: append([]api.Param{param.Addr(0)}, append(l, param.Tags(id, 22, 11))...)}
}

// why is what a answers to a request that comes from an address: the causes, 0: it was done.
func why(t *testing.T, a *Assoc, from api.Addr, p api.Param, id *uint32) int {
	t.Helper()
	if !a.Take(of(a, keyed(request(*id, p))...), atA, from, 5) {
		t.Fatal("it is not of it")
	}
	*id++
	o := last(t, a, api.ChunkConfAck)
	if o.Local != atA || o.Peer != from || len(o.P.Chunks[0].Params) != 1 {
		t.Fatalf("%+v", o)
	}
	answer := o.P.Chunks[0].Params[0]
	if _, done, _ := param.AsAnswer(answer); done {
		return 0
	}
	l, _ := cause.All(answer.Value[4:])
	return l[0].Code
}

func TestAsked(t *testing.T) {
	a, _ := pair(t)
	id := firstB
	ask := func(what int, addr, from api.Addr) int { return why(t, a, from, param.Request(what, id, addr), &id) }
	if ask(api.ParamAdd, 40, atB) != 0 || len(a.Paths()) != 2 || a.Paths()[1].Peer != 40 || a.Paths()[1].State != api.PathNew {
		t.Error("ParamAdd of another address")
	}
	if ask(api.ParamFirst, 41, atB) != api.CauseAddr || a.First() != 0 || ask(api.ParamFirst, 40, atB) != 0 || a.First() != 1 || ask(api.ParamFirst, 0, atB) != 0 || a.First() != 0 {
		t.Error("ParamFirst")
	}
	if ask(api.ParamDelete, 41, atB) != api.CauseAddr || ask(api.ParamDelete, atB, atB) != api.CauseLast || ask(api.ParamDelete, 0, 50) != api.CauseAddr || len(a.Paths()) != 2 {
		t.Error("ParamDelete that can't be done")
	}
	if ask(api.ParamDelete, 40, atB) != 0 || len(a.Paths()) != 1 || a.Paths()[0].Peer != atB {
		t.Error("ParamDelete of another address")
	}
	for n := range api.MostPaths - 1 {
		if ask(api.ParamAdd, 0, api.Addr(60+n)) != 0 || a.Paths()[n+1].State != api.PathActive {
			t.Error("ParamAdd of 0")
		}
	}
	if ask(api.ParamAdd, 0, 90) != api.CauseFull || ask(api.ParamAdd, 61, atB) != 0 || len(a.Paths()) != api.MostPaths {
		t.Error("CauseFull")
	}
	if ask(api.ParamDelete, 0, 63) != 0 || len(a.Paths()) != 1 || a.Paths()[0].Peer != 63 {
		t.Error("ParamDelete of 0")
	}
	if a.Take(of(a, keyed(request(id+1, param.Request(api.ParamAdd, 1, 0)))...), atA, 63, 5); len(a.Outs()) != 0 {
		t.Error("a request of another number")
	}
}

func TestAskAgain(t *testing.T) {
	a, _ := pair(t)
	a.Ask(api.Ask{What: api.ParamAdd, Local: atA}, 0)
	first := a.Outs()[0].P
	var l []int
	for now := 1; a.State() == api.StateOpen && now < 9000; now++ {
		a.Tick(now)
		for _, o := range a.Outs() {
			if o.P.Chunks[0].Type == api.ChunkBeat {
				come(t, a, now, api.Chunk{Type: api.ChunkBeatAck, Data: o.P.Chunks[0].Data})
			} else if l = append(l, now); !reflect.DeepEqual(o.P, first) {
				t.Errorf("another request %+v", o.P)
			}
		}
	}
	if len(l) != api.MaxErrors || !slices.Equal(l[:5], []int{30, 90, 210, 450, 690}) || !slices.Equal(whats(a), []int{api.EventLost}) {
		t.Errorf("again %v", l)
	}
}

func TestRefused(t *testing.T) {
	a, _ := pair(t)
	a.Ask(api.Ask{What: api.ParamFirst, Local: 3}, 0)
	p := a.Outs()[0].P
	answer := asconf.NewAnswerer(100).Give(p.Chunks[1], []int{api.CauseAddr})
	come(t, a, 1, keyed(answer)...)
	if e := a.Events(); len(e) != 1 || e[0].Done || a.First() != 0 || a.Paths()[1].State != api.PathNew {
		t.Errorf("%+v", e)
	}
	if a.Tick(90); a.asker.Len() != 0 {
		t.Error("it is answered")
	}
}

func TestMending(t *testing.T) {
	a, b := pair(t)
	lost := func(w api.Addr, c api.Chunk, now int) {
		p := of(a, c)
		p.Tag = 22
		if !a.Take(p, w, atB, now) {
			t.Fatal("it is not of it")
		}
	}
	state := between(api.CauseState, true, api.ChunkError)
	lost(atA, state, 5)
	l := a.Outs()
	if len(l) != 1 || l[0].Local != atA || a.Stats().Mends != 1 {
		t.Fatalf("a request at once %+v", l)
	}
	conf := l[0].P.Chunks[1]
	if _, mine, yours, ok := param.AsTags(conf.Params[2]); !ok || mine != 11 || yours != 22 {
		t.Error("both tags")
	}
	if _, addr, ok := param.AsRequest(conf.Params[1]); !ok || addr != 0 || conf.Params[1].Type != api.ParamAdd {
		t.Error("ParamAdd of 0")
	}
	lost(atA, state, 5)
	if len(a.Outs()) != 0 {
		t.Error("once for each time")
	}
	lost(atA, state, 6)
	if again := a.Outs(); len(again) != 1 || !reflect.DeepEqual(again[0].P, l[0].P) {
		t.Errorf("the one that is under way %+v", again)
	}
	lost(7, state, 8)
	lost(atA, api.Chunk{Type: api.ChunkError, Flags: api.FlagMirror, Causes: state.Causes}, 9)
	if len(a.Outs()) != 0 || a.Stats().Mends != 2 {
		t.Error("what mends nothing")
	}
	b.Take(l[0].P, atB, atA, 10)
	hand(t, b, a, 11, nil)
	if x := a.Paths()[0]; x.State != api.PathActive || !slices.Equal(whats(a), []int{api.EventConf}) {
		t.Errorf("mended %+v", x)
	}
	lost(atA, between(api.CauseCollision, true, api.ChunkError), 12)
	if a.Paths()[0].State != api.PathDown || len(a.Outs()) != 0 {
		t.Error("CauseCollision: that path is down")
	}
	a.Ask(api.Ask{What: api.ParamAdd, Local: 3}, 20)
	a.Ask(api.Ask{What: api.ParamFirst, Local: 3}, 20)
	a.Outs()
	lost(atA, state, 21)
	if l := a.Outs(); len(l) != 1 || l[0].Local != atA || l[0].P.Chunks[1].Tsn != 101 || a.asker.Len() != 2 {
		t.Errorf("the one under way goes over that way %+v", l)
	}
}

func TestMore(t *testing.T) {
	a, b := pair(t)
	for _, n := range []int{0, -1, 14, 1 << 40} {
		if a.More(n, 1) != api.ErrInput {
			t.Error("More", n)
		}
	}
	if a.More(13, 1) != api.OK || a.More(1, 1) != api.ErrFull {
		t.Error("More")
	}
	first := a.Outs()
	if len(first) != 1 || !slices.Equal(types(first), []int{api.ChunkStreams}) {
		t.Fatal("a request", types(first))
	}
	a.Tick(30)
	a.Tick(31)
	if l := a.Outs(); len(l) != 1 || !reflect.DeepEqual(l[0], first[0]) {
		t.Errorf("again %+v", l)
	}
	for range 2 {
		b.Take(first[0].P, 9, atA, 32)
		if _, in := b.Streams(); in != 16 {
			t.Error("as many more come in", in)
		}
		if l := b.Outs(); len(l) != 1 || l[0].Local != 9 {
			t.Errorf("it is answered where it came from %+v", l)
		} else {
			a.Take(l[0].P, atA, atB, 33)
		}
		if out, in := a.Streams(); out != 16 || in != 3 {
			t.Error("as many more go out", out, in)
		}
	}
	if e := a.Events(); len(e) != 1 || e[0] != (api.Event{What: api.EventMore, Done: true}) {
		t.Errorf("%+v", e)
	}
	if a.Send(api.Message{Stream: 15, Data: "x"}, 40) != api.OK {
		t.Error("a stream that is new")
	}
	calm(t, a, b, 41)
	if m, ok := b.Read(41); !ok || m.Stream != 15 {
		t.Error("it comes", m)
	}
}

func TestMoreDenied(t *testing.T) {
	a, b := pair(t)
	b.streams.Grow(12)
	a.More(3, 1)
	calm(t, a, b, 2)
	if e := a.Events(); len(e) != 1 || e[0] != (api.Event{What: api.EventMore}) {
		t.Errorf("%+v", e)
	}
	if out, _ := a.Streams(); out != 3 {
		t.Error("streams", out)
	}
	a.More(1, 100)
	a.Outs()
	for now := 101; a.State() == api.StateOpen && now < 9000; now++ {
		a.Tick(now)
		for _, o := range a.Outs() {
			if o.P.Chunks[0].Type == api.ChunkBeat {
				come(t, a, now, api.Chunk{Type: api.ChunkBeatAck, Data: o.P.Chunks[0].Data})
			}
		}
	}
	if !slices.Equal(whats(a), []int{api.EventLost}) {
		t.Error("above MaxErrors times")
	}
}

func TestPathsAreChanged(t *testing.T) {
	a, b := pair(t)
	a.Ask(api.Ask{What: api.ParamAdd, Local: 3}, 10)
	b.Take(a.Outs()[0].P, atB, 33, 10)
	a.Take(b.Outs()[0].P, 3, atB, 10)
	now := 11
	for ; a.Paths()[0].State != api.PathDown && now < 2000; now++ {
		a.Tick(now)
		for _, o := range a.Outs() {
			if o.Local == 3 {
				b.Take(o.P, atB, 33, now)
			}
		}
		for _, o := range b.Outs() {
			if o.Peer == 33 {
				a.Take(o.P, 3, atB, now)
			}
		}
	}
	if a.Paths()[1].State != api.PathActive || a.used().local != 3 {
		t.Error("the other one is used", a.Paths())
	}
	send(t, a, now, "over the other one")
	if l := a.Outs(); len(l) != 1 || l[0].Local != 3 {
		t.Errorf("%+v", l)
	}
}
