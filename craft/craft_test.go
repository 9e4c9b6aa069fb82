package craft

import (
	"reflect"
	"strings"
	"testing"

	"crossway/api"
	"crossway/packet"
	"crossway/show"
)

func TestHex(t *testing.T) {
	if Hex("") != "-" || Hex("\x00\xff\x1a") != "00ff1a" {
		t.Error("Hex")
	}
	for s, want := range map[string]string{"-": "", "00ff1a": "\x00\xff\x1a", "ab": "\xab"} {
		if got, ok := Unhex(s); !ok || got != want {
			t.Errorf("Unhex(%s)", s)
		}
	}
	for _, s := range []string{"", "a", "abc", "AB", "0g", "--", "-0", " 0", "0x00"} {
		if got, ok := Unhex(s); ok || got != "" {
			t.Errorf("Unhex(%s)", s)
		}
	}
	for n := range 256 {
		if got, ok := Unhex(Hex(string([]byte{byte(n)}))); !ok || got != string([]byte{byte(n)}) {
			t.Error("byte", n)
		}
	}
}

func TestUint(t *testing.T) {
	for s, want := range map[string]int{"0": 0, "7": 7, "10": 10, "4294967295": 1<<32 - 1} {
		if got, ok := Uint(s); !ok || got != want {
			t.Errorf("Uint(%s)", s)
		}
	}
	for _, s := range []string{"", "00", "01", "-1", "+1", "4294967296", "99999999999999999999999999", "1x", " 1", "1 "} {
		if got, ok := Uint(s); ok || got != 0 {
			t.Errorf("Uint(%s)", s)
		}
	}
}

func packets() map[string]api.Packet {
	of := func(c ...api.Chunk) api.Packet { return api.Packet{From: 1, To: 2, Tag: 5, Chunks: c} }
	params := []api.Param{{Type: 5, Value: "ab"}, {Type: 0xc007}}
	ask := of(api.Chunk{Type: 1, Tag: 9, Rwnd: 8, Out: 7, In: 6, Tsn: 5, Params: params})
	ask.Tag = 0
	return map[string]api.Packet{
		"1 2 5 | 11 0":                                         of(api.Chunk{Type: 11}),
		"1 2 0 | 1 0 9 8 7 6 5 p5:6162 p49159:-":               ask,
		"1 2 5 | 2 0 9 8 7 6 5":                                of(api.Chunk{Type: 2, Tag: 9, Rwnd: 8, Out: 7, In: 6, Tsn: 5}),
		"1 2 5 | 0 3 4294967295 1 2 3 78 | 0 0 0 0 0 0 -":      of(api.Chunk{Flags: 3, Tsn: 1<<32 - 1, Stream: 1, Ssn: 2, Proto: 3, Data: "x"}, api.Chunk{}),
		"1 2 5 | 3 0 1 2 2-3 5-5 +7 +0":                        of(api.Chunk{Type: 3, Tsn: 1, Rwnd: 2, Gaps: []api.Gap{{From: 2, To: 3}, {From: 5, To: 5}}, Dups: []uint32{7, 0}}),
		"1 2 5 | 3 0 1 2":                                      of(api.Chunk{Type: 3, Tsn: 1, Rwnd: 2}),
		"1 2 5 | 4 0 61 | 5 0 -":                               of(api.Chunk{Type: 4, Data: "a"}, api.Chunk{Type: 5}),
		"1 2 5 | 6 3 c176:6162 c5:- | 9 1 | 7 0 9":             of(api.Chunk{Type: 6, Flags: 3, Causes: []api.Cause{{Code: 176, Info: "ab"}, {Code: 5}}}, api.Chunk{Type: 9, Flags: 1}, api.Chunk{Type: 7, Tsn: 9}),
		"1 2 5 | 8 0 | 10 0 636f | 15 0 1 2 61":                of(api.Chunk{Type: 8}, api.Chunk{Type: 10, Data: "co"}, api.Chunk{Type: 15, Stream: 1, Ssn: 2, Data: "a"}),
		"1 2 5 | 14 1":                                         of(api.Chunk{Type: 14, Flags: 1}),
		"1 2 5 | 193 0 7 p5:6162 p49159:- | 128 0 8 | 130 0 9": of(api.Chunk{Type: 0xc1, Tsn: 7, Params: params}, api.Chunk{Type: 0x80, Tsn: 8}, api.Chunk{Type: 0x82, Tsn: 9}),
		"1 2 5 | 63 255 6162 | 200 0 -":                        of(api.Chunk{Type: 63, Flags: 255, Data: "ab"}, api.Chunk{Type: 200}),
	}
}

func TestText(t *testing.T) {
	for s, p := range packets() {
		if packet.Put(p) == "" {
			t.Fatal(s)
		}
		if Text(p) != s {
			t.Errorf("%s, not %s", Text(p), s)
		}
		if got, err := Parse(s); err != api.OK || !reflect.DeepEqual(got, p) {
			t.Errorf("%s: %+v %v", s, got, err)
		}
	}
	if Text(api.Packet{}) != "0 0 0" || Chunk(api.Chunk{Type: 11}) != "11 0" {
		t.Error("Text of none")
	}
}

// full is a chunk of a type that has all lists, and its text: the numbers and bytes of its type, and just those lists that it says.
func full(typ int) (api.Chunk, string) {
	c := api.Chunk{Type: typ, Tsn: 1, Stream: 2, Ssn: 3, Proto: 4, Data: "d", Tag: 5, Rwnd: 6, Out: 7, In: 8,
		Params: []api.Param{{Type: 5, Value: "p"}}, Causes: []api.Cause{{Code: 12, Info: "c"}}, Gaps: []api.Gap{{From: 2, To: 3}}, Dups: []uint32{9}}
	says := map[int]string{
		0: " 1 2 3 4 64", 1: " 5 6 7 8 1 p5:70", 2: " 5 6 7 8 1 p5:70", 3: " 1 6 2-3 +9", 6: " c12:63", 7: " 1", 8: "", 9: " c12:63", 11: "", 14: "", 15: " 2 3 64",
		0xc1: " 1 p5:70", 0x80: " 1 p5:70", 0x82: " 1 p5:70",
	}
	text, ok := says[typ]
	if !ok {
		text = " 64"
	}
	return c, show.Num(typ) + " 0" + text
}

func TestListsOfOtherTypes(t *testing.T) {
	for typ := range 256 {
		c, want := full(typ)
		if got := Chunk(c); got != want {
			t.Errorf("%q, not %q", got, want)
		}
		if got := Text(api.Packet{From: 1, To: 2, Tag: 5, Chunks: []api.Chunk{c, c}}); got != "1 2 5 | "+want+" | "+want {
			t.Errorf("Text %q", got)
		}
	}
}

func TestParseListsOfOtherTypes(t *testing.T) {
	for typ := range 256 {
		_, says := full(typ)
		s := "1 2 5 | " + says
		if typ == api.ChunkInit {
			s = "1 2 0 | " + says
		}
		if _, err := Parse(s); err != api.OK {
			t.Errorf("%q: %v", s, err)
		}
		for item, kind := range map[string]string{" p5:70": " p", " c12:63": " c", " 2-3": "-", " +9": "+"} {
			if strings.Contains(says, kind) {
				continue
			}
			if p, err := Parse(s + item); err != api.ErrForm || !reflect.DeepEqual(p, api.Packet{}) {
				t.Errorf("%q with %q: %+v %v", s, item, p, err)
			}
		}
	}
}

func TestParseNot(t *testing.T) {
	for _, s := range []string{
		"", "1 2 5", "1 2", "1 2 5 |", "1 2 5 | ", "1 2 5 | 11", "1 2 5 | 11 0 ", " 1 2 5 | 11 0", "1  2 5 | 11 0", "1 2 5 | 11 0 0", "1 2 5 |11 0", "1 2 5| 11 0", "1 2 5 6 | 11 0",
		"0 2 5 | 11 0", "1 65536 5 | 11 0", "1 2 0 | 11 0", "1 2 05 | 11 0", "1 2 5 | 11 1", "1 2 5 | 256 0 -", "1 2 5 | 2 0 9 8 7 6 5 | 11 0", "1 2 5 | 11 0 p5:-", "1 2 5 | 11 0 -",
		"1 2 5 | 0 3 1 2 3 4", "1 2 5 | 0 3 1 2 3 4 x", "1 2 5 | 0 3 1 2 3 4 7", "1 2 5 | 0 3 1 70000 3 4 61", "1 2 5 | 0 3 4294967296 2 3 4 61",
		"1 2 5 | 3 0 1 2 1-1", "1 2 5 | 3 0 1 2 2", "1 2 5 | 3 0 1 2 2-", "1 2 5 | 3 0 1 2 +7 2-2", "1 2 5 | 3 0 1 2 +x", "1 2 5 | 3 0 1 2 2-3-4", "1 2 5 | 6 0 c1", "1 2 5 | 6 0 c1:", "1 2 5 | 6 0 p1:-", "1 2 5 | 193 0 1 c1:-", "1 2 5 | 193 0 1 p70000:-",
		"1 2 5 | 10 0 " + strings.Repeat("61", 901),
	} {
		if p, err := Parse(s); err != api.ErrForm || !reflect.DeepEqual(p, api.Packet{}) {
			t.Errorf("%q: %+v %v", s, p, err)
		}
	}
	if _, err := Parse(strings.Repeat("x", api.MostCraft)); err != api.ErrForm {
		t.Error("as many bytes as may be")
	}
	if p, err := Parse(strings.Repeat("x", api.MostCraft+1)); err != api.ErrMuch || !reflect.DeepEqual(p, api.Packet{}) {
		t.Error("too many bytes")
	}
}
