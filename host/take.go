package host

import (
	"slices"

	"crossway/api"
	"crossway/assoc"
	"crossway/cause"
	"crossway/clash"
	"crossway/cookie"
	"crossway/packet"
	"crossway/param"
	"crossway/strange"
)

// Take lets bytes come from the network.
func (h *Host) Take(d api.Datagram, now int) {
	if h == nil || !slices.Contains(h.addrs, d.To) {
		return
	}
	p, err := packet.Get(d.S)
	if err != api.OK {
		h.bad++
		return
	}
	if p.Chunks[0].Type == api.ChunkInit {
		h.begin(p, d, now)
		return
	}
	if p.Chunks[0].Type == api.ChunkEcho && h.echoed(p, d, now) {
		return
	}
	for id, a := range h.assocs {
		if a.Take(p, d.To, d.From, now) {
			h.gather(id, now)
			return
		}
	}
	h.stray(p, d)
}

// back sends chunks to where a packet came from.
func (h *Host) back(p api.Packet, d api.Datagram, tag uint32, chunks ...api.Chunk) {
	h.put(d.To, d.From, api.Packet{From: p.To, To: p.From, Tag: tag, Chunks: chunks})
}

// stray answers a packet of no association.
func (h *Host) stray(p api.Packet, d api.Datagram) {
	has := func(typ int) bool {
		_, ok := packet.First(p, typ)
		return ok
	}
	quiet := []int{api.ChunkAbort, api.ChunkError, api.ChunkShutDone, api.ChunkEchoAck, api.ChunkInitAck, api.ChunkConf, api.ChunkConfAck}
	if slices.ContainsFunc(quiet, has) {
		return
	}
	c := api.Chunk{Type: api.ChunkAbort, Flags: api.FlagMirror}
	if has(api.ChunkShutAck) {
		c.Type = api.ChunkShutDone
	}
	h.back(p, d, p.Tag, c)
}

// begin answers an init: all that is known of it goes into the cookie.
func (h *Host) begin(p api.Packet, d api.Datagram, now int) {
	asks := p.Chunks[0]
	looked, told := strange.Params(asks.Params)
	random, _ := param.Find(looked, api.ParamRandom)
	those := h.these(p.To, p.From, d.From)
	at := slices.IndexFunc(those, asking)
	if at < 0 && !h.Port(p.To) || asks.Out == 0 || asks.In == 0 || len(random.Value) != api.RandomBytes {
		h.back(p, d, asks.Tag, api.Chunk{Type: api.ChunkAbort})
		return
	}
	c := api.Cookie{Made: now, Yours: asks.Tag, YourTsn: asks.Tsn, Peer: d.From, Local: d.To, PeerPort: p.From, MyPort: p.To, Rwnd: asks.Rwnd, Random: random.Value}
	out, in := api.MostStreams, api.MostStreams
	if at >= 0 {
		s := those[at].Setup()
		c.Mine, c.MyTsn, c.MyRandom, out, in = s.Mine, s.MyTsn, s.MyRandom, s.Out, s.In
	} else {
		c.Mine, c.MyTsn, c.MyRandom = h.drawTag(), h.drawer.draw(), h.drawer.random()
	}
	_, restart := param.Find(looked, api.ParamRestart)
	c.TieMine, c.TieYours = tied(those, asks.Tag, !restart)
	c.Out, c.In = min(out, asks.In), min(in, asks.Out)
	h.answer(p, d, c, api.Chunk{Type: api.ChunkInitAck, Tag: c.Mine, Rwnd: api.RoomIn, Out: out, In: in, Tsn: c.MyTsn}, told)
}

// tied is the tags that were there ahead: of the association with the tag of who asks now. One that may begin anew may have had another tag then; one that may not is another one behind the same one between.
func tied(those []*assoc.Assoc, yours uint32, anew bool) (uint32, uint32) {
	at := slices.IndexFunc(those, func(a *assoc.Assoc) bool { return a.Setup().Yours == yours })
	if at < 0 && anew && len(those) > 0 {
		at = 0
	}
	if at < 0 {
		return 0, 0
	}
	s := those[at].Setup()
	return s.Mine, s.Yours
}

func asking(a *assoc.Assoc) bool {
	return a.State() == api.StateWait || a.State() == api.StateEchoed
}

// answer sends an init's answer: with as much of what is told as has room.
func (h *Host) answer(p api.Packet, d api.Datagram, c api.Cookie, ack api.Chunk, told []api.Param) {
	ack.Params = []api.Param{
		{Type: api.ParamCookie, Value: cookie.Put(h.key, c)},
		{Type: api.ParamRandom, Value: c.MyRandom},
		{Type: api.ParamRestart},
	}
	for _, x := range told {
		more := append(ack.Params[:len(ack.Params):len(ack.Params)], x)
		if len(more) > api.MostParams || packet.Size([]api.Chunk{{Type: ack.Type, Tag: ack.Tag, Params: more}}) > api.MostPacket {
			break
		}
		ack.Params = more
	}
	h.back(p, d, c.Yours, ack)
}

// echoed takes a cookie that comes back: whether nothing more is done with the packet.
func (h *Host) echoed(p api.Packet, d api.Datagram, now int) bool {
	c, by, err := cookie.Get(h.key, p.Chunks[0].Data, now)
	if err != api.OK && err != api.ErrStale {
		return false
	}
	if p.Tag != c.Mine || p.To != c.MyPort || p.From != c.PeerPort || d.From != c.Peer || d.To != c.Local {
		return false
	}
	id, what := h.met(c)
	if err == api.ErrStale && what != api.ClashAgain {
		h.back(p, d, c.Yours, api.Chunk{Type: api.ChunkError, Causes: []api.Cause{cause.Stale(uint32(by))}})
		return true
	}
	switch what {
	case api.ClashNew:
		if !h.Port(c.MyPort) || len(h.assocs) >= api.MostMade || h.has(c.Mine) {
			return false
		}
		h.add(assoc.Open(setupOf(c), now), now)
	case api.ClashAgain:
		h.assocs[id].Echoed(now)
		h.gather(id, now)
	case api.ClashBoth:
		h.assocs[id].Both(c, now)
		h.gather(id, now)
	default:
		return true
	}
	return false
}

// met is the association that a cookie meets, and what is done with it: of several the first one that it is not new to.
func (h *Host) met(c api.Cookie) (int, int) {
	for _, a := range h.these(c.MyPort, c.PeerPort, c.Peer) {
		s := a.Setup()
		if what := clash.Of(c, s.Mine, s.Yours); what != api.ClashNew {
			return slices.Index(h.assocs, a), what
		}
	}
	return -1, api.ClashNew
}

func setupOf(c api.Cookie) api.Setup {
	return api.Setup{Mine: c.Mine, Yours: c.Yours, MyTsn: c.MyTsn, YourTsn: c.YourTsn, Local: c.Local, Peer: c.Peer, MyPort: c.MyPort, PeerPort: c.PeerPort,
		Out: c.Out, In: c.In, Rwnd: c.Rwnd, MyRandom: c.MyRandom, Random: c.Random}
}
