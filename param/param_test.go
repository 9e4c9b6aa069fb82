package param

import (
	"slices"
	"strings"
	"testing"

	"crossway/api"
	"crossway/octet"
)

func TestMay(t *testing.T) {
	if !May(api.Param{}) || !May(api.Param{Type: 65535, Value: strings.Repeat("x", api.MostValue)}) {
		t.Error("one that may be")
	}
	if May(api.Param{Type: -1}) || May(api.Param{Type: 65536}) || May(api.Param{Type: 1, Value: strings.Repeat("x", api.MostValue+1)}) {
		t.Error("one that may not be")
	}
}

func TestPut(t *testing.T) {
	if Put(Addr(258)) != "\x00\x05\x00\x08\x00\x00\x01\x02" || Put(api.Param{Type: 0x1234, Value: "abc"}) != "\x12\x34\x00\x07abc\x00" || Put(api.Param{}) != "\x00\x00\x00\x04" {
		t.Error("Put")
	}
	if Put(api.Param{Type: 65536}) != "" || Put(api.Param{Value: strings.Repeat("x", 1001)}) != "" {
		t.Error("Put of one that may not be")
	}
	if PutAll(nil) != "" || PutAll([]api.Param{{Type: 1}, {Type: -1}, {Type: 2, Value: "ab"}}) != "\x00\x01\x00\x04\x00\x02\x00\x06ab\x00\x00" {
		t.Error("PutAll")
	}
}

func TestTake(t *testing.T) {
	for _, c := range []struct {
		s   string
		err api.Errno
	}{
		{"\x00\x01\x00\x05a\x00\x00\x00", api.OK},
		{"\x00\x01\x00\x04", api.OK},
		{"", api.ErrShort}, {"\x00\x01\x00", api.ErrShort},
		{"\x00\x01\x00\x03", api.ErrForm}, {"\x00\x01\x00\x00", api.ErrForm},
		{"\x00\x01\x03\xed" + strings.Repeat("x", 1004), api.ErrForm},
		{"\x00\x01\x03\xec" + strings.Repeat("x", 1000), api.OK},
		{"\x00\x01\x00\x06a", api.ErrShort},
		{"\x00\x01\x00\x05a\x00\x00", api.ErrShort},
		{"\x00\x01\x00\x05a\x00\x01\x00", api.ErrPad},
	} {
		r := octet.New(c.s)
		p := Take(r)
		if r.Err() != c.err || c.err != api.OK && p != (api.Param{}) || c.err == api.OK && Put(p) != c.s {
			t.Errorf("Take(%q): %v %v", c.s, p, r.Err())
		}
	}
	if Take(nil) != (api.Param{}) {
		t.Error("Take of no reader")
	}
}

func TestAll(t *testing.T) {
	var many []api.Param
	for n := range api.MostParams {
		many = append(many, api.Param{Type: n, Value: strings.Repeat("v", n)})
	}
	if l, err := All(PutAll(many)); err != api.OK || !slices.Equal(l, many) {
		t.Error("all that was put")
	}
	if l, err := All(PutAll(append(many, api.Param{}))); err != api.ErrMuch || l != nil {
		t.Error("too many")
	}
	if l, err := All(""); err != api.OK || len(l) != 0 {
		t.Error("none")
	}
	if l, err := All("\x00\x01\x00\x04\x00"); err != api.ErrShort || l != nil {
		t.Error("bytes that are missing")
	}
	if _, err := All("\x00\x01\x00\x05a\x00\x00\x01"); err != api.ErrPad {
		t.Error("what fills up")
	}
}

func TestFind(t *testing.T) {
	l := []api.Param{{Type: 1, Value: "a"}, {Type: 2, Value: "b"}, {Type: 2, Value: "c"}}
	if p, ok := Find(l, 2); !ok || p.Value != "b" {
		t.Error("Find")
	}
	if p, ok := Find(l, 3); ok || p != (api.Param{}) {
		t.Error("Find of none")
	}
}

func TestAddr(t *testing.T) {
	if a, ok := AsAddr(Addr(1<<32 - 1)); !ok || a != 1<<32-1 {
		t.Error("AsAddr")
	}
	for _, p := range []api.Param{{}, {Type: api.ParamAddr, Value: "abc"}, {Type: api.ParamAddr, Value: "abcde"}, {Type: api.ParamInfo, Value: "abcd"}} {
		if a, ok := AsAddr(p); ok || a != 0 {
			t.Errorf("AsAddr(%v)", p)
		}
	}
}

func TestRequest(t *testing.T) {
	for _, typ := range []int{api.ParamAdd, api.ParamDelete, api.ParamFirst} {
		p := Request(typ, 7, 258)
		if p.Value != "\x00\x00\x00\x07\x00\x05\x00\x08\x00\x00\x01\x02" || p.Type != typ {
			t.Errorf("Request %v", p)
		}
		if id, a, ok := AsRequest(p); !ok || id != 7 || a != 258 {
			t.Errorf("AsRequest %v", p)
		}
		for _, v := range []string{"", "abc", p.Value[:11], p.Value + "x", p.Value[:4] + "\x00\x06" + p.Value[6:]} {
			if id, a, ok := AsRequest(api.Param{Type: typ, Value: v}); ok || id != 0 || a != 0 {
				t.Errorf("AsRequest of %q", v)
			}
		}
	}
	if _, _, ok := AsRequest(Request(api.ParamDone, 7, 258)); ok {
		t.Error("AsRequest of another kind")
	}
}

func TestAnswer(t *testing.T) {
	if p := Answer(9, ""); p.Type != api.ParamDone || p.Value != "\x00\x00\x00\x09" {
		t.Error("Answer")
	}
	if id, done, ok := AsAnswer(Answer(9, "")); id != 9 || !done || !ok {
		t.Error("AsAnswer of what was done")
	}
	if id, done, ok := AsAnswer(Answer(9, "why")); id != 9 || done || !ok {
		t.Error("AsAnswer of what failed")
	}
	for _, p := range []api.Param{{Type: api.ParamError, Value: "abcd"}, {Type: api.ParamDone, Value: "abcde"}, {Type: api.ParamDone, Value: "abc"}, {Type: api.ParamAdd, Value: "abcd"}, {}} {
		if id, done, ok := AsAnswer(p); id != 0 || done || ok {
			t.Errorf("AsAnswer(%v)", p)
		}
	}
}

func TestTags(t *testing.T) {
	if id, mine, yours, ok := AsTags(Tags(1, 2, 1<<32-1)); id != 1 || mine != 2 || yours != 1<<32-1 || !ok {
		t.Error("AsTags")
	}
	for _, p := range []api.Param{Tags(1, 0, 2), Tags(1, 2, 0), {}, {Type: api.ParamTags, Value: "abcdefghijk"}, {Type: api.ParamTags, Value: "abcdefghijklm"}, {Type: api.ParamAddr, Value: "abcdefghijkl"}} {
		if id, mine, yours, ok := AsTags(p); ok || id != 0 || mine != 0 || yours != 0 {
			t.Errorf("AsTags(%v)", p)
		}
	}
}
