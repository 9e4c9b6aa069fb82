package assoc

import (
	"crossway/api"
	"crossway/path"
)

// Shut lets it be shut down, when all came; ErrNone, if it is not open.
func (a *Assoc) Shut(now int) api.Errno {
	if a.State() != api.StateOpen {
		return api.ErrNone
	}
	a.state = api.StatePending
	a.settle(now)
	return api.OK
}

// closing goes on with shutting down, when all came.
func (a *Assoc) closing(now int) {
	if a.queue.Len() > 0 || a.flight.Len() > 0 {
		return
	}
	switch a.state {
	case api.StatePending:
		a.shutNow(api.StateShut, now)
	case api.StateAsked:
		a.shutNow(api.StateAnswered, now)
	}
}

// shutNow sends a shutdown, or its answer, for the first time.
func (a *Assoc) shutNow(state, now int) {
	a.state = state
	a.shut = timer{}
	a.sendShut(now)
}

func (a *Assoc) sendShut(now int) {
	c := api.Chunk{Type: api.ChunkShutAck}
	if a.state == api.StateShut {
		c = api.Chunk{Type: api.ChunkShut, Tsn: a.got.Cum()}
	}
	a.shut.at = now
	a.shutWay = a.used()
	a.send(a.shutWay, c)
}

// shutAgain sends a shutdown, or its answer, again, if nobody answered.
func (a *Assoc) shutAgain(now int) {
	if a.state != api.StateShut && a.state != api.StateAnswered || !a.shut.due(now) {
		return
	}
	a.change(a.shutWay, path.Bad)
	if a.shut.again >= api.MaxErrors {
		a.end(api.EventLost, 0)
		return
	}
	a.shut.again++
	a.sendShut(now)
}

// shutting takes a shutdown, its answer, or that one's.
func (a *Assoc) shutting(c api.Chunk, x *arrival) {
	switch c.Type {
	case api.ChunkShutAck:
		a.send(x.way, api.Chunk{Type: api.ChunkShutDone})
		a.end(api.EventClosed, 0)
		return
	case api.ChunkShutDone:
		a.end(api.EventClosed, 0)
		return
	}
	a.acked(c.Tsn, nil, x)
	switch a.state {
	case api.StateOpen, api.StatePending:
		a.state = api.StateAsked
	case api.StateShut:
		a.shutNow(api.StateAnswered, x.now)
	case api.StateAnswered:
		a.sendShut(x.now)
	}
}
