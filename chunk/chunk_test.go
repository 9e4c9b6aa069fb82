package chunk

import (
	"reflect"
	"strings"
	"testing"

	"crossway/api"
	"crossway/octet"
)

func some() []api.Chunk {
	params := []api.Param{{Type: api.ParamRandom, Value: "abc"}, {Type: api.ParamRestart}}
	causes := []api.Cause{{Code: api.CauseUser, Info: "x"}, {Code: 5}}
	return []api.Chunk{
		{Type: api.ChunkData, Flags: 7, Tsn: 1<<32 - 1, Stream: 65535, Ssn: 65535, Proto: 9, Data: "hello"},
		{Type: api.ChunkData},
		{Type: api.ChunkInit, Tag: 5, Rwnd: 6000, Out: 2, In: 3, Tsn: 7, Params: params},
		{Type: api.ChunkInitAck, Tag: 1, Params: params},
		{Type: api.ChunkSack, Tsn: 5, Rwnd: 6, Gaps: []api.Gap{{From: 2, To: 2}, {From: 4, To: 65535}}, Dups: []uint32{1, 0, 1}},
		{Type: api.ChunkSack},
		{Type: api.ChunkBeat, Data: "beat"}, {Type: api.ChunkBeatAck, Data: strings.Repeat("b", api.MostInfo)},
		{Type: api.ChunkAbort, Flags: 3, Causes: causes}, {Type: api.ChunkError, Flags: 1, Causes: causes}, {Type: api.ChunkAbort},
		{Type: api.ChunkShut, Tsn: 77}, {Type: api.ChunkShutAck}, {Type: api.ChunkEchoAck}, {Type: api.ChunkShutDone, Flags: 1},
		{Type: api.ChunkEcho, Data: "cookie"}, {Type: api.ChunkEcho},
		{Type: api.ChunkAuth, Stream: 1, Ssn: 2, Data: "seal"},
		{Type: api.ChunkConf, Tsn: 1, Params: params}, {Type: api.ChunkConfAck, Tsn: 2}, {Type: api.ChunkStreams, Tsn: 3, Params: params},
		{Type: 0x3f, Flags: 255, Data: "strange"}, {Type: 255, Data: strings.Repeat("z", api.MostInfo)}, {Type: 12},
	}
}

func TestPutTake(t *testing.T) {
	for _, c := range some() {
		s := Put(c)
		if !May(c) || s == "" || len(s)%4 != 0 {
			t.Fatalf("%+v may be", c)
		}
		r := octet.New(s + "next")
		if got := Take(r); !reflect.DeepEqual(got, c) || r.Left() != 4 {
			t.Errorf("Take: %+v, not %+v", got, c)
		}
		for n := range len(s) {
			r := octet.New(s[:n])
			if got := Take(r); r.Err() != api.ErrShort || !reflect.DeepEqual(got, api.Chunk{}) {
				t.Fatalf("%+v of %d bytes: %v", c, n, r.Err())
			}
		}
	}
}

func TestBytes(t *testing.T) {
	for want, c := range map[string]api.Chunk{
		"\x0b\x00\x00\x04": {Type: api.ChunkEchoAck},
		"\x00\x03\x00\x11\x00\x00\x00\x01\x00\x02\x00\x03\x00\x00\x00\x04x\x00\x00\x00":                    {Flags: 3, Tsn: 1, Stream: 2, Ssn: 3, Proto: 4, Data: "x"},
		"\x01\x00\x00\x14\x00\x00\x00\x01\x00\x00\x00\x02\x00\x03\x00\x04\x00\x00\x00\x05":                 {Type: 1, Tag: 1, Rwnd: 2, Out: 3, In: 4, Tsn: 5},
		"\x03\x00\x00\x18\x00\x00\x00\x01\x00\x00\x00\x02\x00\x01\x00\x01\x00\x02\x00\x03\x00\x00\x00\x04": {Type: 3, Tsn: 1, Rwnd: 2, Gaps: []api.Gap{{From: 2, To: 3}}, Dups: []uint32{4}},
		"\x04\x00\x00\x0c\x00\x01\x00\x06ab\x00\x00":                                                       {Type: 4, Data: "ab"},
		"\x06\x02\x00\x08\x00\xb0\x00\x04":                                                                 {Type: 6, Flags: 2, Causes: []api.Cause{{Code: 0xb0}}},
		"\x0f\x00\x00\x09\x00\x01\x00\x02z\x00\x00\x00":                                                    {Type: 15, Stream: 1, Ssn: 2, Data: "z"},
		"\xc1\x00\x00\x0c\x00\x00\x00\x01\xc0\x07\x00\x04":                                                 {Type: 0xc1, Tsn: 1, Params: []api.Param{{Type: 0xc007}}},
	} {
		if Put(c) != want {
			t.Errorf("Put(%+v): %q", c, Put(c))
		}
	}
}

func TestKnown(t *testing.T) {
	many := 0
	for n := -300; n < 600; n++ {
		if Known(n) {
			many++
		}
	}
	if many != 17 || Known(12) || Known(13) || !Known(0) || !Known(0xc1) || !Known(0x82) || Known(-1) || Known(256) {
		t.Error("Known")
	}
}

func TestMayNot(t *testing.T) {
	gaps := func(l ...int) api.Chunk {
		c := api.Chunk{Type: api.ChunkSack}
		for n := 0; n < len(l); n += 2 {
			c.Gaps = append(c.Gaps, api.Gap{From: l[n], To: l[n+1]})
		}
		return c
	}
	for _, c := range []api.Chunk{
		{Type: -1}, {Type: 256}, {Flags: 8}, {Flags: -1}, {Type: api.ChunkInit}, {Type: api.ChunkInitAck, Rwnd: 5}, {Type: api.ChunkInit, Tag: 1, Flags: 1},
		{Type: 63, Flags: 256}, {Type: 63, Flags: -1}, {Type: api.ChunkAbort, Flags: 4}, {Type: api.ChunkShutDone, Flags: 2}, {Type: api.ChunkEcho, Flags: 1},
		{Stream: -1}, {Stream: 65536}, {Ssn: 65536}, {Data: strings.Repeat("x", api.MostInfo+1)}, {Type: api.ChunkInit, Tag: 1, Out: 65536}, {Type: api.ChunkInit, Tag: 1, In: -1},
		gaps(1, 1), gaps(0, 3), gaps(3, 2), gaps(2, 3, 4, 5), gaps(4, 5, 2, 2), gaps(2, 65536), {Type: api.ChunkSack, Dups: make([]uint32, 17)},
		{Type: api.ChunkConf, Params: make([]api.Param, 17)}, {Type: api.ChunkConf, Params: []api.Param{{Type: -1}}}, {Type: api.ChunkError, Causes: make([]api.Cause, 17)}, {Type: api.ChunkError, Causes: []api.Cause{{Code: 65536}}},
		{Type: api.ChunkAuth, Ssn: 65536}, {Type: api.ChunkBeat, Data: strings.Repeat("x", 901)},
		{Tag: 1}, {Rwnd: 1}, {Out: 1}, {In: 1}, {Params: make([]api.Param, 1)}, {Causes: make([]api.Cause, 1)}, {Gaps: []api.Gap{{From: 2, To: 2}}}, {Dups: []uint32{1}},
		{Type: api.ChunkEchoAck, Data: "x"}, {Type: api.ChunkShut, Stream: 1}, {Type: api.ChunkSack, Data: "x"}, {Type: api.ChunkBeat, Tsn: 1}, {Type: api.ChunkAuth, Tsn: 1}, {Type: 63, Tsn: 1}, {Type: api.ChunkAbort, Tsn: 1}, {Type: api.ChunkConf, Proto: 1}, {Type: api.ChunkInit, Tag: 1, Ssn: 1}, {Type: api.ChunkShutAck, Tsn: 1},
	} {
		if May(c) || Put(c) != "" {
			t.Errorf("%+v may not be", c)
		}
	}
	var many []int
	for n := range api.MostGaps {
		many = append(many, 2*n+2, 2*n+2)
	}
	if !May(gaps(many...)) || May(gaps(append(many, 100, 101)...)) {
		t.Error("how many gaps")
	}
	if !May(api.Chunk{Type: api.ChunkConf, Params: make([]api.Param, 16)}) || !May(api.Chunk{Type: api.ChunkSack, Dups: make([]uint32, 16)}) {
		t.Error("as many as may be")
	}
}

func TestTakeWrong(t *testing.T) {
	sack := func(gaps, dups int, tail string) string {
		s := strings.Repeat("\x00", 8) + octet.U16(gaps) + octet.U16(dups) + tail
		return "\x03\x00" + octet.U16(len(s)+4) + s
	}
	seventeen := ""
	for n := range 17 {
		seventeen += octet.U16(2*n+2) + octet.U16(2*n+2)
	}
	for s, want := range map[string]api.Errno{
		"\x0b\x00\x00\x03": api.ErrForm, "\x0b\x00\x00\x00": api.ErrForm, "\x0b\x01\x00\x04": api.ErrForm,
		"\x0b\x00\x00\x05a\x00\x00\x00": api.ErrForm, "\x0a\x00\x00\x05a\x00\x00\x01": api.ErrPad, "\x0a\x00\x00\x05a\x00\x00": api.ErrShort,
		"\x00\x00\x00\x08abcd": api.ErrForm, "\x07\x00\x00\x0cabcdefgh": api.ErrForm, "\x07\x00\x00\x04": api.ErrForm,
		"\x01\x00\x00\x14\x00\x00\x00\x00abcdabcdabcd": api.ErrForm,
		"\x04\x00\x00\x04":                                              api.ErrShort,
		"\x04\x00\x00\x08\x00\x02\x00\x04":                              api.ErrForm,
		"\x04\x00\x00\x0c\x00\x01\x00\x04\x00\x01\x00\x04":              api.ErrForm,
		"\x06\x00\x00\x08\x00\x01\x00\x03":                              api.ErrForm,
		"\x06\x00\x00\x06\x00\x01\x00\x00":                              api.ErrShort,
		"\xc1\x00\x00\x0dabcd\x00\x01\x00\x05a\x00\x00\x00":             api.ErrShort,
		"\xc1\x00\x00\x10abcd\x00\x01\x00\x05a\x00\x01\x00":             api.ErrPad,
		"\xc1\x00\x00\x4cabcd" + strings.Repeat("\x00\x01\x00\x04", 17): api.ErrMuch,
		"\x3f\x00\x03\x89" + strings.Repeat("x", 901) + "\x00\x00\x00":  api.ErrForm,
		sack(1, 0, ""): api.ErrForm, sack(0, 0, "abcd"): api.ErrForm, sack(1, 0, "\x00\x01\x00\x01"): api.ErrForm,
		sack(0, 17, strings.Repeat("dups", 17)): api.ErrMuch, sack(17, 0, seventeen): api.ErrMuch, sack(17, 0, strings.Repeat("\x00\x02\x00\x02", 17)): api.ErrForm,
		sack(17, 17, ""): api.ErrForm, sack(0, 16, strings.Repeat("dups", 16)): api.OK,
	} {
		r := octet.New(s)
		if c := Take(r); r.Err() != want || want != api.OK && !reflect.DeepEqual(c, api.Chunk{}) {
			t.Errorf("Take(%q): %v, not %v", s, r.Err(), want)
		}
	}
	if !reflect.DeepEqual(Take(nil), api.Chunk{}) {
		t.Error("Take of no reader")
	}
}

func FuzzTake(f *testing.F) {
	for _, c := range some() {
		f.Add(Put(c))
	}
	f.Fuzz(func(t *testing.T, s string) {
		r := octet.New(s)
		c := Take(r)
		if r.Err() == api.OK && Put(c) != s[:len(s)-r.Left()] {
			t.Errorf("%q is read as %+v", s, c)
		}
	})
}
