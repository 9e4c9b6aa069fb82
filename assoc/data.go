package assoc

import (
	"slices"

	"crossway/ackplan"
	"crossway/api"
	"crossway/cause"
	"crossway/packet"
	"crossway/path"
	"crossway/serial"
)

// space is how many bytes of data have room here.
func (a *Assoc) space() int {
	return max(0, api.RoomIn-a.parts.Bytes()-a.streams.Bytes())
}

// data takes a chunk of data.
func (a *Assoc) data(c api.Chunk, x *arrival) {
	if c.Data == "" {
		a.send(x.way, api.Chunk{Type: api.ChunkAbort, Causes: []api.Cause{cause.NoData(c.Tsn)}})
		a.end(api.EventAbort, api.CauseNoData)
		return
	}
	x.data = true
	switch a.got.Look(c.Tsn) {
	case api.GotTwice:
		a.got.Add(c.Tsn)
		a.stats.Twice++
		x.pressing = true
	case api.GotFar:
		a.stats.Far++
		x.pressing = true
	default:
		if len(c.Data) > a.space() {
			a.stats.Tight++
			x.pressing = true
			return
		}
		a.got.Add(c.Tsn)
		a.stats.Came++
		a.keep(c, x.way)
	}
}

// keep lets new data wait until they can be read.
func (a *Assoc) keep(c api.Chunk, w way) {
	if c.Stream < 0 || c.Stream >= a.streams.Many() {
		a.tell(w, []api.Cause{cause.Stream(c.Stream)})
		return
	}
	if m, ok := a.parts.Add(c); ok {
		a.streams.Put(m)
	}
}

// say says what came, when a packet of data did, and it is time for that.
func (a *Assoc) say(x *arrival) {
	if !x.data || a.state < api.StateOpen {
		return
	}
	a.dataWay = x.way
	at := false
	a.plan, at = ackplan.Came(a.plan, x.now, x.pressing || !a.got.Whole() || a.state != api.StateOpen)
	if at {
		a.sack()
	}
}

// sack says what came, over the way over which data came last.
func (a *Assoc) sack() {
	a.plan = ackplan.Said()
	a.stats.Sacks++
	a.send(a.dataWay, api.Chunk{Type: api.ChunkSack, Tsn: a.got.Cum(), Rwnd: uint32(a.space()), Gaps: a.got.Gaps(), Dups: a.got.Dups()})
}

// Read takes the next message that came; false: none did.
func (a *Assoc) Read(now int) (api.Message, bool) {
	if a == nil {
		return api.Message{}, false
	}
	tight := a.space() < 2*api.PartBytes
	m, ok := a.streams.Read()
	if ok && tight && a.state >= api.StateOpen {
		a.sack()
	}
	return m, ok
}

// Send lets a message of the user be sent: ErrNone, if it is not open; ErrInput, ErrFull.
func (a *Assoc) Send(m api.Message, now int) api.Errno {
	if a.State() != api.StateOpen {
		return api.ErrNone
	}
	err := a.queue.Put(m, a.flight.Held())
	if err == api.OK {
		a.settle(now)
	}
	return err
}

// acked takes what a sack says: false, if that is nothing.
func (a *Assoc) acked(cum uint32, gaps []api.Gap, x *arrival) bool {
	behind := serial.Diff(cum, a.flight.Cum())
	if behind < 0 || behind > a.flight.Len() {
		return false
	}
	before := a.Paths()
	told := a.flight.Sack(cum, gaps, len(before), x.now)
	a.each(func(n int, p api.Path) api.Path {
		if told.Came[n] > 0 {
			p = path.Grow(path.Good(p), told.Came[n], full(before[n]) && told.More)
		}
		if told.Took[n] >= 0 {
			p = path.Took(p, told.Took[n])
		}
		if told.Lost[n] {
			p = path.Lost(p)
		}
		return p
	})
	a.change(x.way, func(p api.Path) api.Path {
		if p.BeatAt == 0 {
			p = beatLater(p, x.now)
		}
		return p
	})
	a.errors = 0
	return true
}

// toldRoom takes the room that a sack says. One that does not say all that is known to have come was sent ahead of another one: the other side has no more room than was known, else what is missing could find no room there.
func (a *Assoc) toldRoom(room int, gaps []api.Gap) {
	for n, x := range a.flight.All() {
		said := func(g api.Gap) bool { return g.From <= n+1 && n+1 <= g.To }
		if x.Came && !slices.ContainsFunc(gaps, said) {
			a.yourRoom = min(a.yourRoom, room)
			return
		}
	}
	a.yourRoom = room
}

// full tells whether no whole part of a message has room on a path: a few bytes that are left are no room.
func full(x api.Path) bool { return x.Cwnd-x.Flight < api.PartBytes }

// flush sends what is to be sent again, and what waits, as far as there is room.
func (a *Assoc) flush(now int) {
	if a.state != api.StateOpen && a.state != api.StatePending && a.state != api.StateAsked {
		return
	}
	n := a.ways.Use()
	x := a.ways.At(n)
	x.Flight = a.flight.On(n)
	room := min(path.Room(x), api.MaxBurst*api.Mtu)
	chunks, room := a.again(n, room, now)
	if _, left := a.flight.Peek(); !left {
		chunks = append(chunks, a.fresh(n, room, now)...)
	}
	for w := wayOf(x); len(chunks) > 0; {
		many := fitting(chunks)
		a.send(w, chunks[:many:many]...)
		chunks = chunks[many:]
	}
}

// fitting is how many of chunks, the first one at least, have room in a packet.
func fitting(l []api.Chunk) int {
	many := 1
	for many < len(l) && many < api.MostChunks && packet.Size(l[:many+1]) <= api.Mtu {
		many++
	}
	return many
}

// again is chunks that are sent again on a path, and the room that is left.
func (a *Assoc) again(n, room, now int) ([]api.Chunk, int) {
	size, ok := a.flight.Peek()
	if !ok {
		return nil, room
	}
	var l []api.Chunk
	for _, x := range a.flight.All() {
		if !x.Again {
			continue
		}
		if size, ok = a.flight.Peek(); !ok || size > room {
			break
		}
		c, _ := a.flight.Again(n, now)
		l = append(l, c)
		room -= size
		if x.Missed >= api.FastMissing {
			a.stats.Fast++
		} else {
			a.stats.Late++
		}
	}
	return l, room
}

// fresh is chunks that waited, and are sent on a path: one at least, if nothing is under way.
func (a *Assoc) fresh(n, room, now int) []api.Chunk {
	var l []api.Chunk
	under := a.flight.Bytes()
	for {
		size, ok := a.queue.Peek()
		if !ok || size > room || under > 0 && size > a.yourRoom-under {
			return l
		}
		c, _ := a.queue.Take()
		l = append(l, a.flight.Add(c, n, now))
		room -= size
		under += size
		a.stats.Sent++
	}
}
