package world

import (
	"crossway/api"
	"crossway/host"
	"crossway/topo"
)

func said(err api.Errno) api.Said { return api.Said{OK: err == api.OK, Err: err} }

// found is what came of something that may have found nothing.
func found(ok bool) api.Said {
	if !ok {
		return said(api.ErrNone)
	}
	return said(api.OK)
}

// Do does what is to be done: what came of it; ErrInput of what may not be.
func (w *World) Do(a api.Act) api.Said {
	if w == nil {
		return api.Said{}
	}
	defer w.gather()
	switch {
	case a.What >= api.ActDeliver && a.What <= api.ActBend:
		return w.toPacket(a)
	case a.What == api.ActTick:
		return w.ticks(a.A)
	case a.What == api.ActReboot || a.What == api.ActExpire:
		return w.toNat(a)
	}
	h := w.Host(a.Host)
	if h == nil {
		return said(api.ErrInput)
	}
	return w.byHost(h, a)
}

// byHost does what a host does.
func (w *World) byHost(h *host.Host, a api.Act) api.Said {
	switch a.What {
	case api.ActListen:
		return said(h.Listen(a.A))
	case api.ActConnect:
		return w.connect(h, a)
	case api.ActSend:
		return said(h.Send(a.A, api.Message{Stream: a.B, Loose: a.C != 0, Data: a.S}, w.now))
	case api.ActRead:
		m, ok := h.Read(a.A, w.now)
		x := found(ok)
		x.Read = m
		return x
	case api.ActShut:
		return said(h.Shut(a.A, w.now))
	case api.ActAbort:
		return said(h.Abort(a.A, w.now))
	case api.ActAdd:
		return w.ask(h, a, api.ParamAdd)
	case api.ActOnly:
		return w.ask(h, a, api.ParamDelete)
	case api.ActFirst:
		return w.ask(h, a, api.ParamFirst)
	case api.ActMore:
		return said(h.More(a.A, a.B, w.now))
	case api.ActForge:
		return w.forge(h, a)
	}
	return said(api.ErrInput)
}

func (w *World) connect(h *host.Host, a api.Act) api.Said {
	x := host.Want{Local: a.A, MyPort: a.B, Peer: topo.Outer(w.topo, a.C, a.D), PeerPort: a.E, Streams: a.F}
	if a.F < 0 {
		x.Streams, x.Plain = -a.F, true
	}
	id, err := h.Connect(x, w.now)
	if err != api.OK {
		return said(err)
	}
	return api.Said{OK: true, ID: id}
}

// addr is an address of a host, by its place; 0: there is none such.
func addr(h *host.Host, place int) api.Addr {
	l := h.Addrs()
	if place < 0 || place >= len(l) {
		return 0
	}
	return l[place]
}

func (w *World) ask(h *host.Host, a api.Act, what int) api.Said {
	return said(h.Ask(a.A, api.Ask{What: what, Local: addr(h, a.B)}, w.now))
}

func (w *World) forge(h *host.Host, a api.Act) api.Said {
	d := api.Datagram{From: topo.Outer(w.topo, a.B, a.C), To: addr(h, a.A), S: a.S}
	if d.From == 0 || d.To == 0 {
		return said(api.ErrInput)
	}
	h.Take(d, w.now)
	return said(api.OK)
}

// toPacket does something with the packet at a place, round.
func (w *World) toPacket(a api.Act) api.Said {
	many := w.net.Len()
	if many == 0 {
		return said(api.ErrNone)
	}
	at := (a.A%many + many) % many
	switch a.What {
	case api.ActDeliver:
		x, _ := w.net.Take(at)
		w.arrive(x)
	case api.ActLose:
		w.net.Take(at)
	case api.ActDouble:
		if !w.net.Double(at) {
			return said(api.ErrFull)
		}
	case api.ActBend:
		return found(w.net.Bend(at, a.B))
	}
	return said(api.OK)
}

func (w *World) ticks(many int) api.Said {
	if many < 1 || many > api.MostTick {
		return said(api.ErrInput)
	}
	for range many {
		w.tick()
	}
	return said(api.OK)
}

func (w *World) toNat(a api.Act) api.Said {
	b := w.Nat(a.A)
	if b == nil {
		return said(api.ErrInput)
	}
	if a.What == api.ActReboot {
		b.Reboot()
	} else {
		b.Expire(w.now)
	}
	return said(api.OK)
}
