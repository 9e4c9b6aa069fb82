package assoc

import (
	"crossway/ackplan"
	"crossway/api"
	"crossway/octet"
	"crossway/path"
	"crossway/span"
)

// Tick lets time come: what is due is done.
func (a *Assoc) Tick(now int) {
	if a.State() == api.StateClosed {
		return
	}
	a.unanswered(now)
	for _, due := range []func(now int){a.late, a.beats, a.shutAgain, a.askAgain, a.moreAgain, a.sackDue} {
		if a.state >= api.StateOpen {
			due(now)
		}
	}
	a.settle(now)
}

func (a *Assoc) sackDue(now int) {
	if ackplan.Due(a.plan, now) {
		a.sack()
	}
}

// late lets all of a path be sent again, when the first of it was sent long ago.
func (a *Assoc) late(now int) {
	a.each(func(n int, x api.Path) api.Path {
		at, ok := a.flight.Oldest(n)
		if !ok || span.Since(at, now) < x.Rto.Wait {
			return x
		}
		a.flight.Late(n)
		a.failed()
		return path.Bad(path.Late(x))
	})
}

// beatLater is a path whose next heartbeat is due when it waited, and some time more.
func beatLater(x api.Path, now int) api.Path {
	x.BeatAt = now + x.Rto.Wait + api.BeatEvery
	return x
}

// beats sends those heartbeats that are due, until all is shut down.
func (a *Assoc) beats(now int) {
	if a.state == api.StateShut || a.state == api.StateAnswered {
		return
	}
	a.each(func(n int, x api.Path) api.Path {
		if now < x.BeatAt || a.state == api.StateClosed {
			return x
		}
		if x.Beat != 0 {
			// Just how long is waited is taken of a late path: nothing is known of what is under way.
			x.Rto = path.Late(x).Rto
			x = path.Bad(x)
			a.failed()
		}
		a.beat = max(1, a.beat+1)
		x.Beat, x.BeatSent = a.beat, now
		if a.state != api.StateClosed {
			a.stats.Beats++
			a.send(wayOf(x), api.Chunk{Type: api.ChunkBeat, Data: beatOf(x)})
		}
		return beatLater(x, now)
	})
}

func beatOf(x api.Path) string {
	return octet.U32(uint32(x.Local)) + octet.U32(uint32(x.Peer)) + octet.U32(x.Beat)
}

// beaten takes the answer to a heartbeat.
func (a *Assoc) beaten(c api.Chunk, now int) {
	a.each(func(n int, x api.Path) api.Path {
		if x.Beat == 0 || c.Data != beatOf(x) {
			return x
		}
		a.errors = 0
		a.stats.Backs++
		x.Beat = 0
		return path.Took(path.Good(x), span.Since(x.BeatSent, now))
	})
}
