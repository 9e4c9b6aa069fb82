package packet

import (
	"reflect"
	"strings"
	"testing"

	"crossway/api"
	"crossway/chunk"
	"crossway/crcc"
	"crossway/octet"
)

func some() []api.Packet {
	return []api.Packet{
		{From: 1, To: 65535, Tag: 1<<32 - 1, Chunks: []api.Chunk{{Type: api.ChunkEchoAck}}},
		{From: 1, To: 2, Chunks: []api.Chunk{{Type: api.ChunkInit, Tag: 5, Params: []api.Param{{Type: 9, Value: "v"}}}}},
		{From: 1, To: 2, Tag: 3, Chunks: []api.Chunk{{Type: api.ChunkInitAck, Tag: 5}}},
		{From: 1, To: 2, Tag: 3, Chunks: []api.Chunk{{Type: api.ChunkShutDone, Flags: 1}}},
		{From: 5, To: 6, Tag: 7, Chunks: []api.Chunk{{Data: "a", Flags: 3}, {Type: api.ChunkSack, Gaps: []api.Gap{{From: 2, To: 2}}}, {Type: 200, Data: "z"}}},
		{From: 5, To: 6, Tag: 7, Chunks: make([]api.Chunk, api.MostChunks)},
	}
}

func TestPutGet(t *testing.T) {
	for _, p := range some() {
		s := Put(p)
		if got, err := Get(s); err != api.OK || !reflect.DeepEqual(got, p) {
			t.Errorf("%+v is read as %+v, %v", p, got, err)
		}
		if Size(p.Chunks) != len(s) {
			t.Errorf("Size of %+v", p)
		}
	}
	s := Put(some()[0])
	if s[:8] != "\x00\x01\xff\xff\xff\xff\xff\xff" || s[12:] != "\x0b\x00\x00\x04" || !crcc.Sealed(s, 8) {
		t.Errorf("bytes %q", s)
	}
	if Size(nil) != 12 {
		t.Error("Size of none")
	}
}

func TestPutNot(t *testing.T) {
	ack := []api.Chunk{{Type: api.ChunkEchoAck}}
	big := api.Chunk{Type: api.ChunkEcho, Data: strings.Repeat("x", 690)}
	for _, p := range []api.Packet{
		{}, {From: 0, To: 1, Tag: 1, Chunks: ack}, {From: 1, To: 0, Tag: 1, Chunks: ack}, {From: 65536, To: 1, Tag: 1, Chunks: ack}, {From: 1, To: -1, Tag: 1, Chunks: ack},
		{From: 1, To: 1, Tag: 1}, {From: 1, To: 1, Tag: 0, Chunks: ack}, {From: 1, To: 1, Tag: 1, Chunks: []api.Chunk{{Type: 1, Tag: 1}}},
		{From: 1, To: 1, Tag: 1, Chunks: []api.Chunk{{Type: 2, Tag: 1}, {Type: 11}}}, {From: 1, To: 1, Tag: 0, Chunks: []api.Chunk{{Type: 1, Tag: 1}, {Type: 11}}},
		{From: 1, To: 1, Tag: 1, Chunks: []api.Chunk{{Type: 11}, {Type: 14}}}, {From: 1, To: 1, Tag: 1, Chunks: []api.Chunk{{Type: 11, Tsn: 5}}},
		{From: 1, To: 1, Tag: 1, Chunks: make([]api.Chunk, 21)}, {From: 1, To: 1, Tag: 1, Chunks: []api.Chunk{big, big}},
	} {
		if Put(p) != "" {
			t.Errorf("%+v may be", p)
		}
	}
	big.Data = strings.Repeat("x", 688)
	if s := Put(api.Packet{From: 1, To: 1, Tag: 1, Chunks: []api.Chunk{big, {Type: 10, Data: strings.Repeat("x", 692)}}}); len(s) != api.MostPacket {
		t.Error("as many bytes as may be", len(s))
	}
}

func raw(from, to int, tag uint32, body string) string {
	return crcc.Seal(octet.U16(from)+octet.U16(to)+octet.U32(tag)+"abcd"+body, 8)
}

func TestGetNot(t *testing.T) {
	ack := "\x0b\x00\x00\x04"
	for s, want := range map[string]api.Errno{
		strings.Repeat("x", 1401): api.ErrMuch, "": api.ErrShort, strings.Repeat("x", 11): api.ErrShort, strings.Repeat("x", 12): api.ErrSum, strings.Repeat("x", 1400): api.ErrSum,
		raw(1, 1, 1, ""): api.ErrForm, raw(0, 1, 1, ack): api.ErrForm, raw(1, 0, 1, ack): api.ErrForm, raw(1, 1, 0, ack): api.ErrForm, raw(1, 1, 1, ack): api.OK,
		raw(1, 1, 1, strings.Repeat(ack, 20)): api.OK, raw(1, 1, 1, strings.Repeat(ack, 21)): api.ErrMuch, raw(1, 1, 1, strings.Repeat(ack, 21)+"z"): api.ErrShort,
		raw(1, 1, 1, ack+"\x0b\x00\x00\x03"): api.ErrForm, raw(1, 1, 1, "\x0e\x00\x00\x04"+ack): api.ErrForm, raw(1, 1, 1, ack+"\x0a\x00\x00\x05a\x00\x01\x00"): api.ErrPad,
		raw(1, 1, 5, chunk.Put(api.Chunk{Type: 1, Tag: 1})): api.ErrForm, raw(1, 1, 0, chunk.Put(api.Chunk{Type: 2, Tag: 1})): api.ErrForm, raw(0, 1, 1, "abc"): api.ErrShort,
	} {
		if p, err := Get(s); err != want || want != api.OK && !reflect.DeepEqual(p, api.Packet{}) {
			t.Errorf("Get(%q): %v, not %v", s, err, want)
		}
	}
}

func TestEachBit(t *testing.T) {
	s := Put(some()[4])
	for bit := range len(s) * 8 {
		b := []byte(s)
		b[bit/8] ^= 1 << (bit % 8)
		if _, err := Get(string(b)); err != api.ErrSum {
			t.Errorf("bit %d: %v", bit, err)
		}
	}
}

func TestFirst(t *testing.T) {
	p := api.Packet{Chunks: []api.Chunk{{Type: 3, Dups: []uint32{1}}, {Type: 0, Data: "a"}, {Type: 0, Data: "b"}}}
	if c, ok := First(p, 0); !ok || c.Data != "a" {
		t.Error("First")
	}
	if c, ok := First(p, 7); ok || !reflect.DeepEqual(c, api.Chunk{}) {
		t.Error("First of none")
	}
	c, _ := First(p, 3)
	c.Dups[0] = 9
	if p.Chunks[0].Dups[0] != 1 {
		t.Error("what is answered is the caller's own")
	}
}

func TestMirrored(t *testing.T) {
	of := func(l ...api.Chunk) api.Packet { return api.Packet{Chunks: l} }
	for _, typ := range []int{api.ChunkAbort, api.ChunkError, api.ChunkShutDone} {
		if !Mirrored(of(api.Chunk{Type: typ, Flags: 1})) || !Mirrored(of(api.Chunk{Type: typ, Flags: 3})) || Mirrored(of(api.Chunk{Type: typ, Flags: 2})) || Mirrored(of(api.Chunk{}, api.Chunk{Type: typ, Flags: 1})) {
			t.Error("Mirrored", typ)
		}
	}
	if Mirrored(of()) || Mirrored(of(api.Chunk{Flags: 1})) || Mirrored(of(api.Chunk{Type: 63, Flags: 1})) {
		t.Error("what is not mirrored")
	}
}

func FuzzGet(f *testing.F) {
	for _, p := range some() {
		f.Add(Put(p))
	}
	f.Fuzz(func(t *testing.T, s string) {
		sealed := crcc.Seal(s, 8)
		if p, err := Get(sealed); err == api.OK && Put(p) != sealed {
			t.Errorf("%q is read as %+v", sealed, p)
		}
	})
}
