package assoc

import (
	"crossway/api"
	"crossway/auth"
	"crossway/cause"
	"crossway/chunk"
	"crossway/packet"
	"crossway/param"
	"crossway/strange"
	"crossway/tags"
)

// Knows tells whether a packet is of this association: its ports, its tag, and where it comes from; one that asks about addresses may come from anywhere, if it says both tags.
func (a *Assoc) Knows(p api.Packet, local, peer api.Addr) bool {
	if a.State() == api.StateClosed {
		return false
	}
	s := a.setup
	if p.From != s.PeerPort || p.To != s.MyPort || !tags.Ours(p, s.Mine, s.Yours) {
		return false
	}
	return a.ways.Peer(peer) >= 0 || saysTags(p, s.Yours, s.Mine)
}

// saysTags tells whether a conf of a packet says both tags: that of who sent it first.
func saysTags(p api.Packet, theirs, mine uint32) bool {
	for _, c := range p.Chunks {
		if c.Type != api.ChunkConf {
			continue
		}
		found, _ := param.Find(c.Params, api.ParamTags)
		if _, first, second, ok := param.AsTags(found); ok && first == theirs && second == mine {
			return true
		}
	}
	return false
}

// arrival is a packet that came: over which way, when, and what came of its data.
type arrival struct {
	way      way
	now      int
	data     bool
	pressing bool
}

// Take takes a packet that came over a way, if it is of this association: whether it is.
func (a *Assoc) Take(p api.Packet, local, peer api.Addr, now int) bool {
	if !a.Knows(p, local, peer) {
		return false
	}
	x := &arrival{way: way{local: local, peer: peer}, now: now}
	looked, told := strange.Chunks(p.Chunks)
	if len(told) > 0 && a.state >= api.StateOpen {
		a.tell(x.way, told)
	}
	for _, c := range auth.Pass(a.key(), looked) {
		if tags.May(c, a.state) && chunk.May(c) {
			a.look(c, x)
		}
	}
	a.say(x)
	a.settle(now)
	return true
}

// tell sends causes in an error, as many as have room in a packet.
func (a *Assoc) tell(w way, causes []api.Cause) {
	c := api.Chunk{Type: api.ChunkError, Causes: causes}
	for packet.Size([]api.Chunk{c}) > api.MostPacket {
		c.Causes = c.Causes[:len(c.Causes)-1]
	}
	a.send(w, c)
}

func (a *Assoc) look(c api.Chunk, x *arrival) {
	switch c.Type {
	case api.ChunkInitAck:
		a.answered(c, x.way, x.now)
	case api.ChunkEchoAck:
		a.open(x.now)
	case api.ChunkData:
		a.data(c, x)
	case api.ChunkSack:
		if a.acked(c.Tsn, c.Gaps, x) {
			a.toldRoom(int(c.Rwnd), c.Gaps)
		}
	case api.ChunkBeat:
		a.send(x.way, api.Chunk{Type: api.ChunkBeatAck, Data: c.Data})
	case api.ChunkBeatAck:
		a.beaten(c, x.now)
	case api.ChunkAbort:
		a.aborted(c)
	case api.ChunkError:
		a.wronged(c, x)
	case api.ChunkShut, api.ChunkShutAck, api.ChunkShutDone:
		a.shutting(c, x)
	case api.ChunkConf:
		a.asked(c, x.way)
	case api.ChunkConfAck:
		a.confirmed(c)
	case api.ChunkStreams:
		a.streamsAsked(c, x.way)
	}
}

// aborted takes an abort: of one between it says that a tag, or ports, are another one's.
func (a *Assoc) aborted(c api.Chunk) {
	if c.Flags&api.FlagBetween == 0 {
		why := 0
		if len(c.Causes) > 0 {
			why = c.Causes[0].Code
		}
		a.end(api.EventAbort, why)
		return
	}
	why := among(c.Causes, api.CauseCollision, api.CausePorts)
	if a.state == api.StateWait && why != 0 {
		a.happened(api.Event{What: api.EventClash, Why: why})
	}
}

// wronged takes an error.
func (a *Assoc) wronged(c api.Chunk, x *arrival) {
	between := c.Flags&api.FlagBetween != 0
	lost := between && cause.Has(c.Causes, api.CauseState)
	if a.state == api.StateEchoed && (lost || cause.Has(c.Causes, api.CauseStale)) {
		a.anew(x.now)
		return
	}
	if !between || a.state < api.StateOpen || a.place(x.way) < 0 {
		return
	}
	if lost {
		a.mend(x.way, x.now)
	}
	if cause.Has(c.Causes, api.CauseCollision) {
		a.change(x.way, func(p api.Path) api.Path {
			p.State = api.PathDown
			return p
		})
	}
}

// Abort ends it at once; ErrNone, if it is closed.
func (a *Assoc) Abort() api.Errno {
	if a.State() == api.StateClosed {
		return api.ErrNone
	}
	if a.state >= api.StateEchoed {
		a.send(a.used(), api.Chunk{Type: api.ChunkAbort, Causes: []api.Cause{{Code: api.CauseUser}}})
	}
	a.end(api.EventClosed, 0)
	return api.OK
}
