package assoc

import (
	"reflect"
	"slices"
	"strings"
	"testing"

	"crossway/api"
	"crossway/packet"
)

func say(n int) string { return strings.Repeat("d", n) }

func read(a *Assoc, now int) []string {
	var l []string
	for {
		m, ok := a.Read(now)
		if !ok {
			return l
		}
		l = append(l, m.Data)
	}
}

func send(t *testing.T, a *Assoc, now int, l ...string) {
	t.Helper()
	for _, s := range l {
		if err := a.Send(api.Message{Data: s}, now); err != api.OK {
			t.Fatal("Send", err)
		}
	}
}

func TestMessages(t *testing.T) {
	a, b := pair(t)
	if a.Send(api.Message{Stream: 3, Data: "x"}, 1) != api.ErrInput || a.Send(api.Message{}, 1) != api.ErrInput || a.Send(api.Message{Data: say(3001)}, 1) != api.ErrInput {
		t.Error("what may not be sent")
	}
	long := say(3000)
	send(t, a, 1, "one", long)
	a.Send(api.Message{Stream: 2, Loose: true, Proto: 7, Data: "loose"}, 1)
	if a.Left() != 3008 {
		t.Error("Left", a.Left())
	}
	if a.Send(api.Message{Data: long}, 1) != api.ErrFull || a.Left() != 3008 {
		t.Error("as much as may wait")
	}
	calm(t, a, b, 2)
	want := []api.Message{{Data: "one"}, {Data: long, Ssn: 1}, {Stream: 2, Loose: true, Proto: 7, Data: "loose"}}
	for _, m := range want {
		if got, ok := b.Read(3); !ok || got != m {
			t.Errorf("read %+v", got)
		}
	}
	if a.Left() != 0 {
		for now := 3; now < 10; now++ {
			b.Tick(now)
			calm(t, a, b, now)
		}
	}
	if a.Left() != 0 {
		t.Error("all came", a.Left())
	}
	if s := a.Stats(); s.Sent != 17 || s.Late+s.Fast != 0 {
		t.Errorf("%+v", s)
	}
	if s := b.Stats(); s.Came != 17 || s.Twice+s.Far+s.Tight != 0 || s.Sacks == 0 {
		t.Errorf("%+v", s)
	}
	send(t, b, 20, "back")
	calm(t, a, b, 20)
	if l := read(a, 20); !slices.Equal(l, []string{"back"}) {
		t.Error("the other way", l)
	}
}

func TestPacketsAndRoom(t *testing.T) {
	a, _ := pair(t)
	send(t, a, 1, say(3000))
	l := a.Outs()
	bytes := 0
	for _, o := range l {
		if len(packet.Put(o.P)) > api.Mtu || o.P.Tag != 22 {
			t.Error("a packet of too many bytes")
		}
		for _, c := range o.P.Chunks {
			bytes += len(c.Data)
		}
	}
	if bytes != api.CwndFirst || len(l) != 5 {
		t.Error("as much as the path has room for", bytes, len(l))
	}
	if x := a.Paths()[0]; x.Flight != 1800 {
		t.Error("under way", x.Flight)
	}
	come(t, a, 5, api.Chunk{Type: api.ChunkSack, Tsn: 101, Rwnd: 6000})
	if x := a.Paths()[0]; x.Cwnd != 2200 || x.State != api.PathActive || !x.Rto.Known || x.Rto.Mean != 4 || x.Flight != 2200 {
		t.Errorf("it was full, and grows %+v", x)
	}
	a.Outs()
	come(t, a, 6, api.Chunk{Type: api.ChunkSack, Tsn: 112, Rwnd: 6000})
	if x := a.Paths()[0]; x.Cwnd != 2800 || x.Flight != 400 || a.Left() != 400 {
		t.Errorf("by Mtu at most %+v", x)
	}
	come(t, a, 8, api.Chunk{Type: api.ChunkSack, Tsn: 114, Rwnd: 6000})
	if x := a.Paths()[0]; x.Cwnd != 2800 {
		t.Errorf("it was not full %+v", x)
	}
	a.Outs()
	send(t, a, 9, say(3000))
	bytes = 0
	for _, o := range a.Outs() {
		for _, c := range o.P.Chunks {
			bytes += len(c.Data)
		}
	}
	if bytes != api.MaxBurst*api.Mtu {
		t.Error("MaxBurst at once", bytes)
	}
}

func TestFull(t *testing.T) {
	for bytes, want := range map[int]int{1600: 1800, 1601: 2200} {
		a, _ := pair(t)
		send(t, a, 1, say(bytes))
		come(t, a, 2, api.Chunk{Type: api.ChunkSack, Tsn: 101, Rwnd: 6000})
		if x := a.Paths()[0]; x.Cwnd != want {
			t.Errorf("%d bytes: %+v", bytes, x)
		}
		come(t, a, 2, api.Chunk{Type: api.ChunkSack, Tsn: 101, Rwnd: 6000, Gaps: []api.Gap{{From: 3, To: 4}}})
		if x := a.Paths()[0]; x.Cwnd != want {
			t.Errorf("Cum did not go on: %+v", x)
		}
	}
}

func TestYourRoom(t *testing.T) {
	a, _ := pair(t)
	send(t, a, 1, say(400))
	a.Outs()
	come(t, a, 2, api.Chunk{Type: api.ChunkSack, Tsn: 100, Rwnd: 500})
	send(t, a, 3, say(1000))
	if n := len(types(a.Outs())); n != 1 {
		t.Error("300 bytes of room", n)
	}
	come(t, a, 4, api.Chunk{Type: api.ChunkSack, Tsn: 102, Rwnd: 0})
	if n := len(types(a.Outs())); n != 1 {
		t.Error("no room, and nothing is under way", n)
	}
	come(t, a, 5, api.Chunk{Type: api.ChunkSack, Tsn: 102, Rwnd: 199})
	if n := len(types(a.Outs())); n != 0 {
		t.Error("no room", n)
	}
	come(t, a, 5, api.Chunk{Type: api.ChunkSack, Tsn: 102, Rwnd: 6000})
	if n := len(types(a.Outs())); n != 3 {
		t.Error("room again", n)
	}
}

func TestOldSacks(t *testing.T) {
	a, _ := pair(t)
	send(t, a, 1, say(600))
	a.Outs()
	come(t, a, 2, api.Chunk{Type: api.ChunkSack, Tsn: 101, Rwnd: 6000})
	before := a.Paths()
	for _, tsn := range []uint32{100, 103, 5} {
		come(t, a, 3, api.Chunk{Type: api.ChunkSack, Tsn: tsn, Rwnd: 0, Gaps: []api.Gap{{From: 2, To: 2}}})
	}
	if a.Left() != 200 || !reflect.DeepEqual(before, a.Paths()) || a.yourRoom != 6000 {
		t.Error("they are nothing")
	}
}

func TestRoomOfAnOldSack(t *testing.T) {
	a, _ := pair(t)
	send(t, a, 1, say(1000))
	a.Outs()
	gaps := []api.Gap{{From: 3, To: 4}}
	come(t, a, 2, api.Chunk{Type: api.ChunkSack, Tsn: 100, Rwnd: 900, Gaps: gaps})
	come(t, a, 2, api.Chunk{Type: api.ChunkSack, Tsn: 100, Rwnd: 6000})
	send(t, a, 3, say(1000))
	if n := len(types(a.Outs())); n != 2 {
		t.Error("900 bytes of room less 400", n)
	}
	come(t, a, 4, api.Chunk{Type: api.ChunkSack, Tsn: 100, Rwnd: 6000, Gaps: gaps})
	if n := len(types(a.Outs())); n == 0 {
		t.Error("more room")
	}
}

func TestThirdOfFourIsLost(t *testing.T) {
	a, b := pair(t)
	send(t, a, 1, say(200), say(200), "third", say(200))
	hand(t, a, b, 2, func(o api.Out) bool { return o.P.Chunks[0].Data != "third" })
	for range 2 {
		send(t, a, 2, say(200))
		hand(t, a, b, 2, nil)
	}
	l := b.Outs()
	for n, o := range l {
		if a.Stats().Fast != 0 {
			t.Error("too early", n)
		}
		a.Take(o.P, atA, atB, 3)
	}
	if s := a.Stats(); s.Fast != 1 || s.Late != 0 {
		t.Errorf("%+v after %d sacks", s, len(l))
	}
	if x := a.Paths()[0]; x.Ssthresh != 2400 || x.Cwnd != 2400 {
		t.Errorf("the path lost %+v", x)
	}
	calm(t, a, b, 4)
	if l := read(b, 4); len(l) != 6 || l[2] != "third" {
		t.Error("all came", len(l))
	}
}

func TestLate(t *testing.T) {
	a, b := pair(t)
	send(t, a, 1, say(3000))
	a.Outs()
	a.Tick(30)
	if len(a.Outs()) != 0 {
		t.Error("it is not late yet")
	}
	a.Tick(31)
	l := a.Outs()
	if x := a.Paths()[0]; x.Cwnd != 600 || x.Errors != 1 || x.Rto.Wait != 60 || x.Flight != 600 || len(types(l)) != 3 || l[0].P.Chunks[0].Tsn != 100 {
		t.Errorf("late %+v %d", x, len(types(l)))
	}
	if s := a.Stats(); s.Late != 3 || s.Sent != 9 {
		t.Errorf("%+v", s)
	}
	for _, o := range l {
		b.Take(o.P, atB, atA, 32)
	}
	calm(t, a, b, 33)
	if x := a.Paths()[0]; x.Errors != 0 || x.State != api.PathActive || len(read(b, 33)) != 1 {
		t.Errorf("all came %+v", x)
	}
}

func TestLost(t *testing.T) {
	a, _ := pair(t)
	send(t, a, 1, "x")
	now := 1
	for ; a.State() == api.StateOpen && now < 5000; now++ {
		a.Tick(now)
	}
	if !slices.Equal(whats(a), []int{api.EventLost}) || a.State() != api.StateClosed {
		t.Error("it is lost", now)
	}
	if s := a.Stats(); s.Late+s.Beats < api.MaxErrors {
		t.Errorf("%+v", s)
	}
}

func TestErrorsGo(t *testing.T) {
	a, _ := pair(t)
	send(t, a, 1, "x")
	for now := 1; now < 4000; now++ {
		a.Tick(now)
		if now%100 == 0 {
			come(t, a, now, api.Chunk{Type: api.ChunkSack, Tsn: 99, Rwnd: 0})
		}
	}
	if a.State() != api.StateOpen {
		t.Error("a sack takes all errors away")
	}
}

func data(tsn uint32, s string) api.Chunk {
	return api.Chunk{Flags: api.FlagBegin | api.FlagEnd, Tsn: tsn, Data: s, Ssn: int(tsn+2) & 65535}
}

// firstB is the first number of what b sends.
var firstB = uint32(1<<32 - 2)

func TestSaying(t *testing.T) {
	a, _ := pair(t)
	come(t, a, 5, data(firstB, "a"))
	if len(a.Outs()) != 0 {
		t.Error("the first packet")
	}
	come(t, a, 5, data(firstB+1, "b"))
	l := a.Outs()
	if len(l) != 1 || !reflect.DeepEqual(l[0].P.Chunks, []api.Chunk{{Type: api.ChunkSack, Tsn: firstB + 1, Rwnd: 5998}}) {
		t.Errorf("the second one %+v", l)
	}
	a.Take(of(a, data(firstB+2, "c"), data(firstB+3, "d")), 77, atB, 6)
	a.Tick(7)
	if len(a.Outs()) != 0 {
		t.Error("one packet")
	}
	a.Tick(8)
	l = a.Outs()
	if len(l) != 1 || l[0].P.Chunks[0].Tsn != firstB+3 || l[0].Local != 77 || l[0].Peer != atB {
		t.Errorf("AckDelay, over its way %+v", l)
	}
	come(t, a, 9, data(firstB+5, "f"))
	if l := a.Outs(); len(l) != 1 || !slices.Equal(l[0].P.Chunks[0].Gaps, []api.Gap{{From: 2, To: 2}}) {
		t.Errorf("something is missing %+v", l)
	}
	come(t, a, 9, data(firstB+4, "e"))
	a.Tick(20)
	a.Outs()
	come(t, a, 21, data(firstB+1, "b"))
	if l := a.Outs(); len(l) != 1 || !slices.Equal(l[0].P.Chunks[0].Dups, []uint32{firstB + 1}) {
		t.Errorf("it came twice %+v", l)
	}
	come(t, a, 21, data(firstB+5+api.Window+1, "x"))
	if l := a.Outs(); len(l) != 1 || len(l[0].P.Chunks[0].Gaps) != 0 {
		t.Errorf("too far %+v", l)
	}
	if s := a.Stats(); s != (api.Stats{Came: 6, Twice: 1, Far: 1, Sacks: 6}) {
		t.Errorf("%+v", s)
	}
	if l := read(a, 22); strings.Join(l, "") != "abcdef" {
		t.Error("read", l)
	}
}

func TestNoRoom(t *testing.T) {
	a, _ := pair(t)
	for n := range 29 {
		come(t, a, 5, data(firstB+uint32(n), say(200)))
	}
	a.Tick(9)
	a.Outs()
	come(t, a, 10, data(firstB+29, say(201)))
	if l := a.Outs(); len(l) != 1 || l[0].P.Chunks[0].Tsn != firstB+28 || l[0].P.Chunks[0].Rwnd != 200 || a.Stats().Tight != 1 {
		t.Errorf("no room %+v", l)
	}
	if come(t, a, 10, data(firstB+29, say(200))); a.Stats().Came != 30 {
		t.Error("just as much")
	}
	a.Tick(12)
	a.Outs()
	for n := range 30 {
		if m, ok := a.Read(13); !ok || len(m.Data) != 200 {
			t.Fatal("Read", m)
		}
		l := a.Outs()
		if tight := n < 2; len(l) > 0 != tight || tight && l[0].P.Chunks[0].Rwnd != uint32(200*n+200) {
			t.Errorf("read %d: %+v", n, l)
		}
	}
}

func TestNoData(t *testing.T) {
	a, _ := pair(t)
	come(t, a, 5, api.Chunk{Tsn: firstB, Flags: 3}, data(firstB+1, "x"))
	l := a.Outs()
	if len(l) != 1 || !reflect.DeepEqual(l[0].P.Chunks, []api.Chunk{{Type: api.ChunkAbort, Causes: []api.Cause{{Code: api.CauseNoData, Info: "\xff\xff\xff\xfe"}}}}) {
		t.Errorf("%+v", l)
	}
	if e := a.Events(); len(e) != 1 || e[0] != (api.Event{What: api.EventAbort, Why: api.CauseNoData}) || a.State() != api.StateClosed {
		t.Errorf("%+v", e)
	}
}

func TestNoStream(t *testing.T) {
	a, _ := pair(t)
	c := data(firstB, "x")
	c.Stream = 3
	come(t, a, 5, c)
	l := a.Outs()
	if len(l) != 1 || !reflect.DeepEqual(l[0].P.Chunks, []api.Chunk{{Type: api.ChunkError, Causes: []api.Cause{{Code: api.CauseStream, Info: "\x00\x03\x00\x00"}}}}) {
		t.Errorf("%+v", l)
	}
	come(t, a, 6, data(firstB+1, "y"))
	if l := a.Outs(); len(l) != 1 || l[0].P.Chunks[0].Tsn != firstB+1 || a.Stats().Came != 2 {
		t.Errorf("it counts as having come %+v", l)
	}
}

func TestStrangeChunks(t *testing.T) {
	a, _ := pair(t)
	come(t, a, 5, api.Chunk{Type: 0xc5, Data: "skip, tell"}, data(firstB, "x"), api.Chunk{Type: 0x45, Data: "stop, tell"}, data(firstB+1, "y"))
	l := a.Outs()
	if len(l) != 1 || l[0].P.Chunks[0].Type != api.ChunkError || len(l[0].P.Chunks[0].Causes) != 2 || a.Stats().Came != 1 {
		t.Errorf("%+v", l)
	}
	w := New(setupA(), 0)
	w.Outs()
	if come(t, w, 1, api.Chunk{Type: 0xc5}); len(w.Outs()) != 0 {
		t.Error("told ahead of StateOpen")
	}
	var many []api.Chunk
	for range 20 {
		many = append(many, api.Chunk{Type: 0xc5, Data: say(60)})
	}
	come(t, a, 5, many...)
	if l := a.Outs(); len(l) != 1 || packet.Put(l[0].P) == "" {
		t.Error("what is told has no room")
	}
	if come(t, a, 6, api.Chunk{Type: api.ChunkSack, Tsn: 99, Stream: 5}, api.Chunk{Stream: -1, Data: "x"}); a.State() != api.StateOpen {
		t.Error("chunks that may not be")
	}
}

func TestShuttingDown(t *testing.T) {
	a, b := pair(t)
	send(t, a, 1, "from a")
	send(t, b, 1, "from b")
	if a.Shut(1) != api.OK || a.State() != api.StatePending || a.Shut(1) != api.ErrNone || a.Send(api.Message{Data: "x"}, 1) != api.ErrNone {
		t.Error("Shut")
	}
	hand(t, a, b, 2, nil)
	b.Tick(4)
	hand(t, b, a, 4, nil)
	if a.State() != api.StateShut {
		t.Error("all came", a.State())
	}
	hand(t, a, b, 5, nil)
	if b.State() != api.StateAnswered {
		t.Error("its answer", b.State())
	}
	l := b.Outs()
	if !slices.Equal(types(l), []int{api.ChunkShutAck}) {
		t.Error(types(l))
	}
	a.Take(l[0].P, atA, atB, 6)
	if a.State() != api.StateClosed || !slices.Equal(whats(a), []int{api.EventClosed}) {
		t.Error("the answer's answer")
	}
	if l := a.Outs(); !slices.Equal(types(l), []int{api.ChunkShutDone}) {
		t.Error(types(l))
	} else {
		b.Take(l[0].P, atB, atA, 7)
	}
	if b.State() != api.StateClosed || !slices.Equal(whats(b), []int{api.EventClosed}) {
		t.Error("so is that")
	}
	if !slices.Equal(read(b, 8), []string{"from a"}) || !slices.Equal(read(a, 8), []string{"from b"}) || len(a.Outs()) != 0 {
		t.Error("what came can be read")
	}
}

func TestShutWhileSending(t *testing.T) {
	a, b := pair(t)
	send(t, b, 1, say(3000))
	a.Shut(1)
	if l := a.Outs(); a.State() != api.StateShut || len(l) != 1 || l[0].P.Chunks[0].Tsn != firstB-1 {
		t.Fatalf("%+v", l)
	} else {
		b.Take(l[0].P, atB, atA, 2)
	}
	if b.State() != api.StateAsked || b.Send(api.Message{Data: "x"}, 2) != api.ErrNone {
		t.Error("not all came yet", b.State())
	}
	calm(t, a, b, 3)
	if a.State() != api.StateClosed || b.State() != api.StateClosed || len(read(a, 3)) != 1 {
		t.Error("all came, and it is shut down", a.State(), b.State())
	}
}

func TestShutAtOnce(t *testing.T) {
	a, b := pair(t)
	a.Shut(1)
	b.Shut(1)
	la, lb := a.Outs(), b.Outs()
	a.Take(lb[0].P, atA, atB, 2)
	b.Take(la[0].P, atB, atA, 2)
	if a.State() != api.StateAnswered || b.State() != api.StateAnswered {
		t.Error("both answer", a.State(), b.State())
	}
	a.Take(lb[0].P, atA, atB, 2)
	if n := len(types(a.Outs())); n != 2 {
		t.Error("it answers again", n)
	}
	hand(t, b, a, 3, nil)
	if a.State() != api.StateClosed {
		t.Error("closed")
	}
}

func TestShutAgain(t *testing.T) {
	a, _ := pair(t)
	a.Shut(0)
	a.Outs()
	if l := resent(a, 1, 700); !slices.Equal(l, []int{30, 90, 210, 450, 690}) || a.Paths()[0].State != api.PathDown {
		t.Errorf("again %v", l)
	}
	l := resent(a, 701, 5000)
	if len(l) != api.MaxErrors-5 || a.State() != api.StateClosed || !slices.Equal(whats(a), []int{api.EventLost}) {
		t.Errorf("MaxErrors times %v", l)
	}
	b, _ := pair(t)
	come(t, b, 0, api.Chunk{Type: api.ChunkShut, Tsn: 99})
	b.Outs()
	if l := resent(b, 1, 5000); len(l) != api.MaxErrors || b.State() != api.StateClosed || !slices.Equal(whats(b), []int{api.EventLost}) {
		t.Errorf("its answer %v", l)
	}
}
