package assoc

import (
	"crossway/api"
	"crossway/asconf"
	"crossway/param"
	"crossway/path"
)

// Ask lets a request about addresses be made; ErrNone, if it is not open; ErrInput, ErrFull.
func (a *Assoc) Ask(x api.Ask, now int) api.Errno {
	if a.State() != api.StateOpen {
		return api.ErrNone
	}
	err := a.asker.Put(x)
	if err == api.OK {
		a.settle(now)
	}
	return err
}

// More lets so many more streams be asked for; ErrNone, if it is not open; ErrInput, ErrFull.
func (a *Assoc) More(many, now int) api.Errno {
	if a.State() != api.StateOpen {
		return api.ErrNone
	}
	if many > api.MostStreams-a.queue.Streams() {
		return api.ErrInput
	}
	err := a.more.Ask(many)
	if err == api.OK {
		a.settle(now)
	}
	return err
}

// asking tells whether requests may go out, and be answered.
func (a *Assoc) asking() bool { return a.within(api.StateOpen, api.StateAsked) }

// askNext sends requests that were not sent yet.
func (a *Assoc) askNext(now int) {
	if !a.asking() {
		return
	}
	if a.asker.Times() == 0 && a.asker.Len() > 0 {
		a.sendAsk(a.askWay(), now)
	}
	if a.more.Times() == 0 {
		a.sendMore(now)
	}
}

func (a *Assoc) sendAsk(w way, now int) {
	if c, ok := a.asker.Send(now, a.setup.Mine, a.setup.Yours); ok {
		a.sendSealed(w, c)
	}
}

func (a *Assoc) sendMore(now int) {
	if c, ok := a.more.Send(now); ok {
		a.send(a.used(), c)
	}
}

// askWay is the way of the first request: the first path from its own address; one that is not there yet is made.
func (a *Assoc) askWay() way {
	x, _ := a.asker.First()
	if w, ok := a.wayFrom(x.Local); ok {
		return w
	}
	w := way{local: x.Local, peer: a.used().peer}
	a.ways.Add(w.local, w.peer)
	return w
}

// wayFrom is the first path from an own address (0: the one that is used); false: there is none.
func (a *Assoc) wayFrom(local api.Addr) (way, bool) {
	if local == 0 {
		return a.used(), true
	}
	for _, x := range a.ways.All() {
		if x.Local == local {
			return wayOf(x), true
		}
	}
	return way{}, false
}

// overdue tells whether a request is to be sent again, that was sent so often, last at a time; too often ends all.
func (a *Assoc) overdue(times, at, now int) bool {
	t := timer{at: at, again: times - 1}
	if times == 0 || !t.due(now) {
		return false
	}
	if t.again >= api.MaxErrors {
		a.end(api.EventLost, 0)
		return false
	}
	return true
}

func (a *Assoc) askAgain(now int) {
	at, _ := a.asker.At()
	if a.asking() && a.overdue(a.asker.Times(), at, now) {
		a.sendAsk(a.askWay(), now)
	}
}

func (a *Assoc) moreAgain(now int) {
	at, _ := a.more.At()
	if a.asking() && a.overdue(a.more.Times(), at, now) {
		a.sendMore(now)
	}
}

// confirmed takes the answer to a request about addresses.
func (a *Assoc) confirmed(c api.Chunk) {
	done, ok := a.asker.Answer(c)
	if !ok {
		return
	}
	a.errors = 0
	a.happened(api.Event{What: api.EventConf, Ask: done.Ask, Done: done.OK})
	w, ok := a.wayFrom(done.Ask.Local)
	if !done.OK || !ok {
		return
	}
	a.change(w, path.Good)
	switch {
	case done.Ask.What == api.ParamFirst:
		a.ways.Choose(a.place(w))
	case done.Ask.What == api.ParamDelete && done.Ask.Addr == 0:
		a.onlyFrom(w.local)
	}
}

// onlyFrom takes all paths from other own addresses away.
func (a *Assoc) onlyFrom(local api.Addr) {
	for _, x := range a.ways.All() {
		if x.Local != local {
			a.drop(x.Local, 0, -1)
		}
	}
}

func (a *Assoc) drop(local, peer api.Addr, keep int) {
	a.flight.Moved(a.ways.Drop(local, peer, keep))
}

// asked takes requests of the other side; the same ones are answered as before.
func (a *Assoc) asked(c api.Chunk, w way) {
	isNew, answer, ok := a.answerer.Take(c)
	if isNew {
		var why []int
		for _, p := range asconf.Asked(c) {
			why = append(why, a.done(p, w))
		}
		answer, ok = a.answerer.Give(c, why), true
	}
	if ok {
		a.sendSealed(w, answer)
	}
}

// done does what is asked, over a way: why not; 0: it is done.
func (a *Assoc) done(p api.Param, w way) int {
	_, addr, _ := param.AsRequest(p)
	switch p.Type {
	case api.ParamAdd:
		return a.add(addr, w)
	case api.ParamDelete:
		return a.remove(addr, w)
	}
	if addr == 0 {
		addr = w.peer
	}
	if !a.ways.Choose(a.ways.Find(w.local, addr)) {
		return api.CauseAddr
	}
	return 0
}

func (a *Assoc) add(addr api.Addr, w way) int {
	if addr != 0 {
		w.peer = addr
	}
	if a.ways.Add(w.local, w.peer) < 0 {
		return api.CauseFull
	}
	if addr == 0 {
		a.change(w, path.Good)
	}
	return 0
}

func (a *Assoc) remove(addr api.Addr, w way) int {
	keep := a.place(w)
	switch {
	case addr == w.peer:
		return api.CauseLast
	case addr == 0 && keep < 0, addr != 0 && a.ways.Peer(addr) < 0:
		return api.CauseAddr
	}
	a.drop(0, addr, keep)
	return 0
}

// mend lets one between know a way again: a request says both tags.
func (a *Assoc) mend(w way, now int) {
	if a.mends && a.mendedAt == now {
		return
	}
	a.mends, a.mendedAt = true, now
	if a.asker.Len() == 0 {
		a.asker.Put(api.Ask{What: api.ParamAdd, Local: w.local})
	}
	a.stats.Mends++
	a.sendAsk(w, now)
}

// streamsAsked takes what is asked for, or answered, of streams.
func (a *Assoc) streamsAsked(c api.Chunk, w way) {
	if many, ok := a.more.Answer(c); ok {
		a.errors = 0
		a.queue.Grow(many)
		a.happened(api.Event{What: api.EventMore, Done: many > 0})
	}
	if many, answer, ok := a.more.Asked(c, a.streams.Many()); ok {
		a.streams.Grow(many)
		a.send(w, answer)
	}
}
