package trace

import (
	"math"
	"reflect"
	"slices"
	"strings"
	"testing"

	"crossway/api"
)

func some() []api.Act {
	return []api.Act{
		{What: api.ActConnect, Host: 1, A: 2, B: 3, C: 4, D: 5, E: 6, F: -7},
		{What: 255, Host: math.MinInt32, A: math.MaxInt32, S: "bytes\x00\xff"},
		{},
		{S: strings.Repeat("x", 30000)},
	}
}

func TestPutGet(t *testing.T) {
	if Act(some()[0]) != "\x01\x00\x00\x00\x01\x00\x00\x00\x02\x00\x00\x00\x03\x00\x00\x00\x04\x00\x00\x00\x05\x00\x00\x00\x06\xff\xff\xff\xf9\x00\x00" {
		t.Errorf("%q", Act(some()[0]))
	}
	s := Put(some())
	if l, err := Get(s); err != api.OK || !slices.Equal(l, some()) {
		t.Error("Put, Get", err)
	}
	if l, err := Get(""); err != api.OK || len(l) != 0 || Put(nil) != "" {
		t.Error("none")
	}
	for n := 1; n < 31+31+7; n++ {
		l, err := Get(s[:n])
		if n == 31 && (err != api.OK || len(l) != 1) || n != 31 && (err != api.ErrShort || l != nil) {
			t.Errorf("%d bytes: %v", n, err)
		}
	}
}

func TestMay(t *testing.T) {
	for n, a := range []api.Act{{What: -1}, {What: 256}, {Host: 1 << 31}, {A: -1<<31 - 1}, {B: math.MaxInt}, {C: 1 << 31}, {D: 1 << 31}, {E: 1 << 31}, {F: math.MinInt}, {S: strings.Repeat("x", 65536)}} {
		if May(a) || Act(a) != "" || Put([]api.Act{{}, a, {}}) != Put([]api.Act{{}, {}}) {
			t.Error("may not be", n)
		}
	}
	if a := (api.Act{S: strings.Repeat("x", 65535)}); !May(a) || Act(a) == "" {
		t.Error("as many bytes as may be")
	}
}

func TestMuch(t *testing.T) {
	if _, err := Get(strings.Repeat("x", api.MostTrace+1)); err != api.ErrMuch {
		t.Error("too many bytes")
	}
	full := Put([]api.Act{{S: strings.Repeat("x", 65535-31-31)}, {}})
	if len(full) != 65535 {
		t.Fatal(len(full))
	}
	if l, err := Get(full); err != api.OK || len(l) != 2 {
		t.Error("as many bytes as may be", err)
	}
	many := Put(make([]api.Act, api.MostActs))
	if l, err := Get(many); err != api.OK || len(l) != api.MostActs {
		t.Error("as many acts as may be", err)
	}
	if l, err := Get(many + Act(api.Act{})); err != api.ErrMuch || l != nil {
		t.Error("too many acts", err)
	}
	if _, err := Get(many + Act(api.Act{}) + "x"); err != api.ErrMuch {
		t.Error("too many acts, and bytes that are missing", err)
	}
	if _, err := Get(many + "x"); err != api.ErrShort {
		t.Error("bytes that are missing", err)
	}
}

func TestPlay(t *testing.T) {
	x := api.Topo{Hosts: []api.HostSpec{{Places: []api.Place{{Addr: 1, Nat: -1}}}}}
	if w, said, err := Play(api.Topo{}, some()); w != nil || said != nil || err != api.ErrInput {
		t.Error("a topology that may not be")
	}
	w, said, err := Play(x, []api.Act{{What: api.ActListen, A: 5}, {What: api.ActTick, A: 3}, {What: 99}})
	if err != api.OK || w.Now() != 3 || !w.Host(0).Port(5) || !reflect.DeepEqual(said, []api.Said{{OK: true}, {OK: true}, {Err: api.ErrInput}}) {
		t.Errorf("%+v", said)
	}
	tick := slices.Repeat([]api.Act{{What: api.ActTick, A: 1}}, api.MostActs+5)
	if w, said, _ := Play(x, tick); w.Now() != api.MostActs || len(said) != api.MostActs {
		t.Error("the first ones", w.Now())
	}
}
