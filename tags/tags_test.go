package tags

import (
	"testing"

	"crossway/api"
)

func TestOurs(t *testing.T) {
	of := func(tag uint32, typ, flags int) api.Packet {
		return api.Packet{From: 1, To: 2, Tag: tag, Chunks: []api.Chunk{{Type: typ, Flags: flags}}}
	}
	for n, c := range []struct {
		p           api.Packet
		mine, yours uint32
		want        bool
	}{
		{of(5, 0, 0), 5, 6, true}, {of(6, 0, 0), 5, 6, false}, {of(5, 0, 0), 5, 0, true}, {of(0, 0, 0), 0, 0, false}, {of(0, 0, 0), 0, 6, false},
		{of(6, api.ChunkAbort, 1), 5, 6, true}, {of(5, api.ChunkAbort, 1), 5, 6, false}, {of(5, api.ChunkAbort, 2), 5, 6, true}, {of(6, api.ChunkError, 3), 5, 6, true}, {of(6, api.ChunkShutDone, 1), 5, 6, true},
		{of(0, api.ChunkAbort, 1), 5, 0, false}, {of(5, api.ChunkAbort, 1), 5, 0, false}, {of(7, api.ChunkAbort, 1), 5, 6, false}, {of(6, api.ChunkData, 1), 5, 6, false},
		{api.Packet{Tag: 5}, 5, 6, true},
	} {
		if Ours(c.p, c.mine, c.yours) != c.want {
			t.Errorf("%d: %+v", n, c)
		}
	}
}

func TestMay(t *testing.T) {
	want := map[int]string{
		api.ChunkInitAck: "1", api.ChunkEchoAck: "2", api.ChunkData: "345", api.ChunkSack: "234567", api.ChunkConf: "3456", api.ChunkConfAck: "3456", api.ChunkStreams: "3456",
		api.ChunkBeat: "34567", api.ChunkBeatAck: "34567", api.ChunkShut: "34567", api.ChunkShutAck: "57", api.ChunkShutDone: "7",
		api.ChunkAbort: "1234567", api.ChunkError: "1234567", api.ChunkEcho: "1234567",
	}
	for typ := -2; typ < 260; typ++ {
		got := ""
		for state := -3; state < 12; state++ {
			if May(api.Chunk{Type: typ}, state) {
				got += string(rune('0' + state))
			}
		}
		if got != want[typ] {
			t.Errorf("chunk %d may come in %s", typ, got)
		}
	}
}
