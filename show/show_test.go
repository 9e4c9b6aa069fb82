package show

import (
	"math"
	"strconv"
	"testing"

	"crossway/api"
	"crossway/packet"
)

func TestNum(t *testing.T) {
	for _, n := range []int{0, 1, 9, 10, -1, -10, 1234567890, math.MaxInt, math.MinInt, -7} {
		if Num(n) != strconv.Itoa(n) {
			t.Errorf("Num(%d): %s", n, Num(n))
		}
	}
}

func TestNames(t *testing.T) {
	want := map[int]string{0: "data", 1: "init", 2: "initack", 3: "sack", 4: "beat", 5: "beatack", 6: "abort", 7: "shut", 8: "shutack", 9: "error", 10: "echo", 11: "echoack", 14: "shutdone", 15: "auth", 0xc1: "conf", 0x80: "confack", 0x82: "streams"}
	for n := -300; n < 300; n++ {
		name, ok := want[n]
		if !ok {
			name = strconv.Itoa(n)
		}
		if Name(n) != name {
			t.Errorf("Name(%d): %s", n, Name(n))
		}
	}
	for n, s := range []string{"closed", "wait", "echoed", "open", "pending", "shut", "asked", "answered", "8"} {
		if State(n) != s {
			t.Errorf("State(%d): %s", n, State(n))
		}
	}
	if State(-1) != "-1" || Name(math.MinInt) != strconv.Itoa(math.MinInt) {
		t.Error("no names")
	}
}

func TestAddr(t *testing.T) {
	for a, want := range map[api.Addr]string{0: "0.0.0.0", 258: "0.0.1.2", 1<<32 - 1: "255.255.255.255", 10<<24 | 1: "10.0.0.1"} {
		if Addr(a) != want {
			t.Errorf("Addr(%d): %s", a, Addr(a))
		}
	}
}

func TestChunk(t *testing.T) {
	params := []api.Param{{Type: 5, Value: "abcd"}, {Type: 0xc007}}
	for want, c := range map[string]api.Chunk{
		"data EB tsn 5 stream 1 ssn 2 bytes 3":             {Flags: 3, Tsn: 5, Stream: 1, Ssn: 2, Data: "abc"},
		"data EBU tsn 4294967295 stream 0 ssn 0 bytes 0":   {Flags: 7, Tsn: 1<<32 - 1},
		"data tsn 0 stream 0 ssn 0 bytes 0":                {},
		"data U tsn 0 stream 0 ssn 0 bytes 1":              {Flags: 4, Data: "x"},
		"init tag 1 room 2 out 3 in 4 tsn 5 p5:4 p49159:0": {Type: 1, Tag: 1, Rwnd: 2, Out: 3, In: 4, Tsn: 5, Params: params},
		"initack tag 1 room 2 out 3 in 4 tsn 5":            {Type: 2, Tag: 1, Rwnd: 2, Out: 3, In: 4, Tsn: 5},
		"sack to 1 room 2 2-3 5-5 twice 7 twice 8":         {Type: 3, Tsn: 1, Rwnd: 2, Gaps: []api.Gap{{From: 2, To: 3}, {From: 5, To: 5}}, Dups: []uint32{7, 8}},
		"sack to 0 room 0":                                 {Type: 3},
		"beat bytes 2":                                     {Type: 4, Data: "ab"},
		"beatack":                                          {Type: 5},
		"abort TM c176 c5":                                 {Type: 6, Flags: 3, Causes: []api.Cause{{Code: 176, Info: "x"}, {Code: 5}}},
		"abort":                                            {Type: 6},
		"error T c1":                                       {Type: 9, Flags: 1, Causes: []api.Cause{{Code: 1}}},
		"error M":                                          {Type: 9, Flags: 2},
		"shut to 9":                                        {Type: 7, Tsn: 9},
		"shutack":                                          {Type: 8},
		"echo bytes 6":                                     {Type: 10, Data: "cookie"},
		"echoack":                                          {Type: 11},
		"shutdone T":                                       {Type: 14, Flags: 1},
		"auth bytes 4":                                     {Type: 15, Ssn: 1, Data: "seal"},
		"conf number 7 p5:4 p49159:0":                      {Type: 0xc1, Tsn: 7, Params: params},
		"confack number 7":                                 {Type: 0x80, Tsn: 7},
		"streams number 7 p5:4 p49159:0":                   {Type: 0x82, Tsn: 7, Params: params},
		"63 bytes 1":                                       {Type: 63, Data: "x"},
		"200":                                              {Type: 200},
	} {
		if Chunk(c) != want {
			t.Errorf("%s, not %s", Chunk(c), want)
		}
	}
}

func TestPacket(t *testing.T) {
	p := api.Packet{From: 1, To: 65535, Tag: 5, Chunks: []api.Chunk{{Type: 11}, {Type: 4, Data: "x"}}}
	if Packet(p) != "1>65535 tag 5, echoack, beat bytes 1" || Packet(api.Packet{}) != "0>0 tag 0" {
		t.Error(Packet(p))
	}
	d := api.Datagram{From: 1, To: 256, S: packet.Put(p)}
	if Datagram(d) != "0.0.0.1>0.0.1.0 1>65535 tag 5, echoack, beat bytes 1" {
		t.Error(Datagram(d))
	}
	d.S = d.S[:15] + "x"
	if Datagram(d) != "0.0.0.1>0.0.1.0 bad 70" || Datagram(api.Datagram{}) != "0.0.0.0>0.0.0.0 bad 2" {
		t.Error(Datagram(d))
	}
}

func TestEntryPath(t *testing.T) {
	if s := Entry(api.Entry{Inner: 1, Port: 2, Peer: 3, PeerPort: 4, In: 5, Out: 6, Seen: 7}); s != "0.0.0.1:2 0.0.0.3:4 in 5 out 6 seen 7" {
		t.Error(s)
	}
	p := api.Path{Local: 1, Peer: 2, Errors: 3, Rto: api.Rto{Wait: 30}, Cwnd: 1800, Flight: 5}
	for n, want := range []string{"new", "active", "down", "3"} {
		p.State = n
		if s := Path(p); s != "0.0.0.1>0.0.0.2 "+want+" errors 3 wait 30 room 1800" {
			t.Error(s)
		}
	}
}
