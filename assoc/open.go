package assoc

import (
	"crossway/api"
	"crossway/param"
	"crossway/span"
)

// timer is when something was sent last, and how often it was sent again.
type timer struct{ at, again int }

func (t timer) due(now int) bool { return span.Since(t.at, now) >= waits(t.again) }

// waits is how long is waited for an answer to what was sent again so often.
func waits(again int) int {
	wait := api.RtoFirst
	for range min(again, api.MaxInit) {
		wait = min(2*wait, api.RtoMost)
	}
	return wait
}

func (a *Assoc) firstWay() way { return wayOf(a.ways.At(a.ways.First())) }

func (a *Assoc) sendInit(now int) {
	s := a.setup
	params := []api.Param{{Type: api.ParamRandom, Value: s.MyRandom}}
	if !s.Plain {
		params = append(params, api.Param{Type: api.ParamRestart})
	}
	a.init.at = now
	a.sendTo(a.firstWay(), 0, api.Chunk{Type: api.ChunkInit, Tag: s.Mine, Rwnd: api.RoomIn, Out: s.Out, In: s.In, Tsn: s.MyTsn, Params: params})
}

func (a *Assoc) sendEcho(now int) {
	a.echo.at = now
	a.send(a.firstWay(), api.Chunk{Type: api.ChunkEcho, Data: a.cookie})
}

// initAgain asks again, if that may be; else it failed.
func (a *Assoc) initAgain(now int) bool {
	if a.init.again >= api.MaxInit {
		a.end(api.EventFailed, 0)
		return false
	}
	a.init.again++
	a.sendInit(now)
	return true
}

// unanswered sends again what nobody answered.
func (a *Assoc) unanswered(now int) {
	switch {
	case a.state == api.StateWait && a.init.due(now):
		a.initAgain(now)
	case a.state == api.StateEchoed && a.echo.due(now):
		if a.echo.again >= api.MaxInit {
			a.end(api.EventFailed, 0)
			return
		}
		a.echo.again++
		a.sendEcho(now)
	}
}

// anew begins anew to ask: nothing is known of the other side.
func (a *Assoc) anew(now int) {
	a.state = api.StateWait
	a.setup.Yours, a.setup.YourTsn, a.setup.Rwnd, a.setup.Random = 0, 0, 0, ""
	a.initAgain(now)
}

// answered takes an init's answer: the cookie is sent back.
func (a *Assoc) answered(c api.Chunk, w way, now int) {
	cookie, _ := param.Find(c.Params, api.ParamCookie)
	random, _ := param.Find(c.Params, api.ParamRandom)
	size := len(cookie.Value)
	if size < 1 || size > api.MostInfo || len(random.Value) != api.RandomBytes || c.Out == 0 || c.In == 0 {
		a.sendTo(w, c.Tag, api.Chunk{Type: api.ChunkAbort, Causes: []api.Cause{{Code: api.CauseMissing}}})
		a.end(api.EventFailed, api.CauseMissing)
		return
	}
	a.setup.Yours, a.setup.YourTsn, a.setup.Rwnd, a.setup.Random = c.Tag, c.Tsn, c.Rwnd, random.Value
	a.join(min(a.setup.Out, c.In), min(a.setup.In, c.Out))
	a.cookie = cookie.Value
	a.state = api.StateEchoed
	a.echo = timer{}
	a.sendEcho(now)
}

// open lets it be open: the path that it was opened over is known for a while.
func (a *Assoc) open(now int) {
	a.state = api.StateOpen
	a.happened(api.Event{What: api.EventUp})
	a.change(a.firstWay(), func(x api.Path) api.Path { return beatLater(x, now) })
}

// Retag lets one that asks begin anew, with another tag and (if it is not 0) another own port; false, if it does not ask, or asked often enough: then it failed.
func (a *Assoc) Retag(mine uint32, port, now int) bool {
	if a.State() != api.StateWait || mine == 0 {
		return false
	}
	a.setup.Mine = mine
	if port != 0 {
		a.setup.MyPort = port
	}
	return a.initAgain(now)
}

// Both lets one that asked be open, because the other side asked, too, and sent this cookie back.
func (a *Assoc) Both(c api.Cookie, now int) bool {
	state := a.State()
	if state != api.StateWait && state != api.StateEchoed || c.Yours == 0 {
		return false
	}
	a.setup.Yours, a.setup.YourTsn, a.setup.Rwnd, a.setup.Random = c.Yours, c.YourTsn, c.Rwnd, c.Random
	a.join(c.Out, c.In)
	a.open(now)
	a.Echoed(now)
	return true
}

// Echoed says again that the cookie came.
func (a *Assoc) Echoed(now int) {
	if a.State() >= api.StateEchoed {
		a.send(way{local: a.setup.Local, peer: a.setup.Peer}, api.Chunk{Type: api.ChunkEchoAck})
	}
}
