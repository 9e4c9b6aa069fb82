package measure

import (
	"testing"

	"crossway/api"
	"crossway/packet"
)

func TestSlot(t *testing.T) {
	want := map[int]int{10: 10, 11: 11, 14: 12, 15: 13, 0xc1: 14, 0x80: 15, 0x82: 16}
	for n := range 10 {
		want[n] = n
	}
	for typ := -300; typ < 300; typ++ {
		slot, ok := want[typ]
		if !ok {
			slot = 17
		}
		if Slot(typ) != slot {
			t.Errorf("Slot(%d): %d", typ, Slot(typ))
		}
	}
}

func of(l ...api.Chunk) api.Datagram {
	return api.Datagram{From: 1, To: 2, S: packet.Put(api.Packet{From: 1, To: 2, Tag: 3, Chunks: l})}
}

func TestTally(t *testing.T) {
	one := of(api.Chunk{Data: "abcd", Flags: 3}, api.Chunk{Data: "ef"}, api.Chunk{Type: 200, Data: "xyz"})
	two := of(api.Chunk{Type: api.ChunkConf}, api.Chunk{Type: 63})
	bad := api.Datagram{S: "bad"}
	a := Add(api.Tally{}, one)
	if a.Packets != 1 || a.Bytes != len(one.S) || a.Bad != 0 || a.Data != 6 || a.Chunks != [18]int{0: 2, 17: 1} {
		t.Errorf("%+v", a)
	}
	all := All([]api.Datagram{one, two, bad})
	if all.Packets != 3 || all.Bytes != len(one.S)+len(two.S)+3 || all.Bad != 1 || all.Data != 6 || all.Chunks != [18]int{0: 2, 14: 1, 17: 2} {
		t.Errorf("%+v", all)
	}
	if Both(a, All([]api.Datagram{two, bad})) != all || Both(api.Tally{}, all) != all || All(nil) != (api.Tally{}) {
		t.Error("Both")
	}
}

func TestShare(t *testing.T) {
	for _, c := range [][3]int{{0, 0, 0}, {0, 5, 0}, {3, 1, 33}, {3, 2, 66}, {100, 100, 100}, {1000, 9, 0}, {-5, 3, 0}} {
		if Share(api.Tally{Bytes: c[0], Data: c[1]}) != c[2] {
			t.Error("Share", c)
		}
	}
}
