// Package whole tests the promises T1 to T6, which are of all layers together.
package whole

import (
	"math/rand"
	"reflect"
	"strconv"
	"strings"
	"testing"

	"crossway/api"
	"crossway/audit"
	"crossway/model"
	"crossway/packet"
	"crossway/plan"
	"crossway/storm"
	"crossway/world"
)

func at(a api.Addr, nat int) api.Place { return api.Place{Addr: a, Nat: nat} }

// topology is hosts 0 and 1 behind one between (0 behind a second one, too), 2 and 3 outside, 4 behind the second one; 1 and 3 have one address, inside and outside.
func topology() api.Topo {
	return api.Topo{
		Hosts: []api.HostSpec{
			{Places: []api.Place{at(1, 0), at(2, 1)}, Key: "a"}, {Places: []api.Place{at(12, 0)}, Key: "b"},
			{Places: []api.Place{at(10, -1), at(11, -1)}, Key: "c"}, {Places: []api.Place{at(12, -1)}, Key: "d"}, {Places: []api.Place{at(1, 1), at(13, -1)}, Key: "e"},
		},
		Nats: []api.NatSpec{{Outer: 100, Most: 8}, {Outer: 101, Most: 5}},
	}
}

// play is a world with a monitor, in which users do something now and then.
type play struct {
	t       *testing.T
	r       *rand.Rand
	topo    api.Topo
	w       *world.World
	m       *model.Monitor
	s       *storm.Storm
	spoke   []map[api.Addr]bool // who inside sent something since one between forgot all
	written int
}

func begin(t *testing.T, seed int64, x api.Weather) *play {
	t.Helper()
	topo := topology()
	w, err := world.New(topo)
	if err != api.OK {
		t.Fatal(err)
	}
	x.Seed = uint64(seed)
	p := &play{t: t, r: rand.New(rand.NewSource(seed)), topo: topo, w: w, m: model.New(), s: storm.New(x), spoke: []map[api.Addr]bool{{}, {}}}
	for _, host := range []int{2, 3, 4} {
		p.do(api.Act{What: api.ActListen, Host: host, A: 80})
	}
	return p
}

// do does an act, and looks whether T1, T2 and T6 hold.
func (p *play) do(a api.Act) api.Said {
	p.t.Helper()
	tables := [][]api.Entry{p.w.Nat(0).Table(), p.w.Nat(1).Table()}
	before, dropped := p.w.Items(), p.w.Dropped()
	s := p.w.Do(a)
	p.m.Note(a, s)
	if a.What == api.ActReboot {
		p.spoke[a.A] = map[api.Addr]bool{}
	}
	if a.What == api.ActDeliver && len(before) > 0 && p.w.Dropped() == dropped {
		p.came(before[((a.A%len(before))+len(before))%len(before)], tables)
	}
	if wrong := audit.World(p.w, p.topo); wrong != 0 {
		p.t.Fatalf("behind %+v: audit %d", a, wrong)
	}
	return s
}

// came looks at what became of a packet that came to one between: it goes to its owner.
func (p *play) came(x api.Item, tables [][]api.Entry) {
	p.t.Helper()
	if x.Leg == api.LegInside {
		p.spoke[x.Nat][x.D.From] = true
	}
	items := p.w.Items()
	if x.Leg != api.LegWorld || len(items) == 0 {
		return
	}
	last := items[len(items)-1]
	if last.Leg != api.LegBack || last.D.S != x.D.S || x.D.To != p.w.Nat(last.Nat).Outer() {
		return
	}
	got, err := packet.Get(x.D.S)
	if err != api.OK || !audit.Owner(tables[last.Nat], last.D.To, x.D.From, got, packet.Mirrored(got)) || !p.spoke[last.Nat][last.D.To] {
		p.t.Fatalf("%+v goes to %d, who does not own it", got, last.D.To)
	}
}

func (p *play) pick(l ...int) int { return l[p.r.Intn(len(l))] }

// user does what some user might.
func (p *play) user() {
	p.t.Helper()
	host, id := p.r.Intn(5), p.r.Intn(4)
	switch n := p.r.Intn(100); {
	case n < 12:
		to := p.pick(2, 3, 4)
		place := 0
		if to == 4 {
			place = 1
		}
		p.do(api.Act{What: api.ActConnect, Host: host, A: p.r.Intn(2), B: p.pick(5, 6, 80, 80), C: to, D: place, E: p.pick(80, 80, 80, 5), F: p.pick(1, 2, 3, 3, -2)})
	case n < 45:
		p.written++
		text := strconv.Itoa(p.written) + strings.Repeat("x", p.pick(0, 1, 150, 500, 2900))
		p.do(api.Act{What: api.ActSend, Host: host, A: id, B: p.r.Intn(4), C: p.pick(0, 0, 1), S: text})
	case n < 80:
		p.do(api.Act{What: api.ActRead, Host: host, A: id})
	case n < 84:
		p.do(api.Act{What: p.pick(api.ActAdd, api.ActAdd, api.ActFirst, api.ActOnly), Host: host, A: id, B: p.r.Intn(2)})
	case n < 86:
		p.do(api.Act{What: api.ActMore, Host: host, A: id, B: 1 + p.r.Intn(4)})
	case n < 87:
		p.do(api.Act{What: p.pick(api.ActShut, api.ActAbort), Host: host, A: id})
	case n < 90:
		p.do(api.Act{What: p.pick(api.ActReboot, api.ActExpire), A: p.r.Intn(2)})
	case n < 92:
		p.forge(host, id)
	}
}

// forge lets something come that bears no tag of the association, or says nothing.
func (p *play) forge(host, id int) {
	p.t.Helper()
	a := p.w.Assoc(host, id)
	s := a.Setup()
	text := "nothing"
	if a != nil {
		c := []api.Chunk{{Type: api.ChunkAbort, Flags: p.r.Intn(2)}}
		text = packet.Put(api.Packet{From: s.PeerPort, To: s.MyPort, Tag: p.r.Uint32() | 1, Chunks: c})
	}
	before := [3]any{a.State(), a.Paths(), a.Left()}
	p.do(api.Act{What: api.ActForge, Host: host, B: p.pick(2, 3), S: text})
	if after := [3]any{a.State(), a.Paths(), a.Left()}; !reflect.DeepEqual(before, after) {
		p.t.Fatalf("what bears no tag of it changed %v to %v", before, after)
	}
}

func (p *play) storm(steps int) {
	p.t.Helper()
	for range steps {
		if p.r.Intn(6) == 0 {
			p.user()
		} else {
			p.do(p.s.Next(p.w.Items()))
		}
	}
	if wrong := p.wrong(); wrong != 0 {
		p.t.Fatalf("wrong %d", wrong)
	}
}

// readAll reads at all associations what can be read.
func (p *play) readAll() {
	for _, k := range model.Ends(p.w) {
		for {
			a := api.Act{What: api.ActRead, Host: k.Host, A: k.ID}
			s := p.w.Do(a)
			p.m.Note(a, s)
			if !s.OK {
				break
			}
		}
	}
}

// other is the other side of an association: of another host, or, if a host asks itself, of that one (perhaps itself).
func (p *play) other(k api.End) (api.End, bool) {
	mine := p.w.Assoc(k.Host, k.ID).Setup()
	var l []api.End
	for _, x := range model.Ends(p.w) {
		yours := p.w.Assoc(x.Host, x.ID).Setup()
		if yours.Mine == mine.Yours && yours.Yours == mine.Mine && yours.MyPort == mine.PeerPort && yours.PeerPort == mine.MyPort {
			l = append(l, x)
		}
	}
	if len(l) != 1 {
		return api.End{}, false
	}
	return l[0], true
}

// wrong is what is wrong of all that was read; the model knows of no other side that is of the same host.
func (p *play) wrong() int {
	wrong, own := 0, 0
	for _, k := range model.Ends(p.w) {
		if len(p.m.Read(k)) == 0 {
			continue
		}
		peer, ok := p.other(k)
		switch {
		case !ok:
			wrong |= api.WrongGhost
			continue
		case peer.Host == k.Host:
			own = api.WrongGhost
		}
		wrong |= model.Held(p.m.Sent(peer), p.m.Read(k))
	}
	if told := p.m.Wrong(p.w); told != wrong|own {
		p.t.Fatalf("the model says %d, not %d", told, wrong|own)
	}
	return wrong
}

// both tells whether an association is open at both sides.
func (p *play) both(k api.End) (api.End, bool) {
	peer, ok := p.other(k)
	return peer, ok && p.w.Assoc(k.Host, k.ID).State() == api.StateOpen && p.w.Assoc(peer.Host, peer.ID).State() == api.StateOpen
}

// calm lets so many rounds be calm that all that is open comes.
func (p *play) calm() {
	rounds := 0
	for _, k := range model.Ends(p.w) {
		rounds = max(rounds, plan.Rounds(p.w.Assoc(k.Host, k.ID)))
	}
	for range rounds {
		p.w.Calm(1)
		p.readAll()
	}
}

// TestStorms is T1, T2 and T6, whatever users do, and whatever becomes of packets; then T4, when it is calm.
func TestStorms(t *testing.T) {
	opened, own, came := 0, 0, 0
	for seed := range int64(60) {
		x := api.Weather{Lose: int(seed*7) % 40, Double: int(seed*5) % 30, Bend: int(seed*3) % 20, Most: 1 + int(seed)%5}
		p := begin(t, seed, x)
		p.storm(1500)
		for n := range p.topo.Nats {
			p.do(api.Act{What: api.ActReboot, A: n})
		}
		p.calm()
		if wrong := p.wrong() | audit.World(p.w, p.topo); wrong != 0 {
			t.Fatalf("storm %d: wrong %d", seed, wrong)
		}
		for _, k := range model.Ends(p.w) {
			peer, ok := p.both(k)
			if !ok {
				continue
			}
			opened++
			if peer.Host == k.Host {
				own++
			}
			came += len(p.m.Sent(k))
			missing := len(p.m.Sent(k)) - len(p.m.Read(peer))
			if a := p.w.Assoc(k.Host, k.ID); missing != 0 || a.Left() != 0 {
				t.Errorf("storm %d: %v, missing %d, left %d, %+v", seed, k, missing, a.Left(), a.Paths())
			}
		}
	}
	if opened < 100 || own < 10 || came < 100 {
		t.Error("nothing much happened", opened, own, came)
	}
	t.Log(opened, own, came)
}
