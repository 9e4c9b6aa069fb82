package script

import (
	"reflect"
	"slices"
	"strings"
	"testing"

	"crossway/api"
	"crossway/packet"
)

func TestNumber(t *testing.T) {
	for s, want := range map[string]int{"0": 0, "7": 7, "-7": -7, "999999999": 999999999, "-999999999": -999999999, "10": 10} {
		if n, ok := Number(s); !ok || n != want {
			t.Errorf("Number(%s)", s)
		}
	}
	for _, s := range []string{"", "-", "-0", "00", "01", "-01", "1000000000", "-1000000000", "+1", "--1", "1 ", " 1", "1x", "0x1"} {
		if n, ok := Number(s); ok || n != 0 {
			t.Errorf("Number(%q)", s)
		}
	}
}

func forged() string {
	return packet.Put(api.Packet{From: 1, To: 2, Tag: 5, Chunks: []api.Chunk{{Type: 11}}})
}

// all is a line of each act.
func all() map[string]api.Act {
	return map[string]api.Act{
		"listen 1 2":                 {What: api.ActListen, Host: 1, A: 2},
		"connect 1 2 3 4 5 6 -7":     {What: api.ActConnect, Host: 1, A: 2, B: 3, C: 4, D: 5, E: 6, F: -7},
		"send 1 2 3 4 the bytes ":    {What: api.ActSend, Host: 1, A: 2, B: 3, C: 4, S: "the bytes "},
		"send 0 0 0 0 ":              {What: api.ActSend},
		"read 1 2":                   {What: api.ActRead, Host: 1, A: 2},
		"shut 1 2":                   {What: api.ActShut, Host: 1, A: 2},
		"abort 1 2":                  {What: api.ActAbort, Host: 1, A: 2},
		"add 1 2 3":                  {What: api.ActAdd, Host: 1, A: 2, B: 3},
		"only 1 2 3":                 {What: api.ActOnly, Host: 1, A: 2, B: 3},
		"first 1 2 3":                {What: api.ActFirst, Host: 1, A: 2, B: 3},
		"more 1 2 3":                 {What: api.ActMore, Host: 1, A: 2, B: 3},
		"deliver 5":                  {What: api.ActDeliver, A: 5},
		"lose -1":                    {What: api.ActLose, A: -1},
		"double 5":                   {What: api.ActDouble, A: 5},
		"bend 5 6":                   {What: api.ActBend, A: 5, B: 6},
		"tick 5":                     {What: api.ActTick, A: 5},
		"reboot 5":                   {What: api.ActReboot, A: 5},
		"expire 5":                   {What: api.ActExpire, A: 5},
		"forge 1 2 3 4 1 2 5 | 11 0": {What: api.ActForge, Host: 1, A: 2, B: 3, C: 4, S: forged()},
	}
}

func TestLine(t *testing.T) {
	seen := map[string]bool{}
	for line, a := range all() {
		if Line(a) != line {
			t.Errorf("%s, not %s", Line(a), line)
		}
		word, _, _ := strings.Cut(line, " ")
		seen[word] = true
		if word == "forge" {
			word = ""
		}
		if Word(a.What) != word {
			t.Errorf("Word(%d): %s", a.What, Word(a.What))
		}
		x, n, err := Parse("host 1:-1\n" + line)
		if n != 0 || err != api.OK || !slices.Equal(x.Acts, []api.Act{a}) {
			t.Errorf("%s: %+v %d %v", line, x.Acts, n, err)
		}
	}
	if len(seen) != 18 {
		t.Error("each act has a line", len(seen))
	}
	for _, a := range []api.Act{{What: -1}, {What: 18}, {A: 1000000000}, {Host: -1000000000}, {What: api.ActSend, S: "a\nb"}, {What: api.ActForge, S: "no packet"}, {What: api.ActForge}} {
		if Line(a) != "" {
			t.Errorf("%+v: %s", a, Line(a))
		}
	}
	if Word(-1) != "" || Word(18) != "" || Word(1<<40) != "" || Line(api.Act{What: api.ActTick, A: 5, Host: 1 << 40}) != "tick 5" {
		t.Error("Word")
	}
}

func TestParse(t *testing.T) {
	text := "# a world\n\nnat 100 16\nhost 1:0 999999999:-1\ndraws 7 8\ndraws 0\nhost 2:-1\n#\nlisten 1 80\ncalm 5\ntick 1\ncalm 2000\n"
	want := api.Script{
		Topo: api.Topo{
			Hosts: []api.HostSpec{{Places: []api.Place{{Addr: 1, Nat: 0}, {Addr: 999999999, Nat: -1}}, Key: "key0", Draws: []uint32{7, 8, 0}}, {Places: []api.Place{{Addr: 2, Nat: -1}}, Key: "key1"}},
			Nats:  []api.NatSpec{{Outer: 100, Most: 16}},
		},
		Acts: []api.Act{{What: api.ActListen, Host: 1, A: 80}, {What: api.ActTick, A: 1}},
		Calm: 2000,
	}
	if x, n, err := Parse(text); n != 0 || err != api.OK || !reflect.DeepEqual(x, want) {
		t.Errorf("%+v %d %v", x, n, err)
	}
}

func TestWrongLines(t *testing.T) {
	for _, line := range []string{
		"host", "host ", "host 1", "host 1:", "host :0", "host 0:-1", "host -1:-1", "host 1:-1 ", "host  1:-1", "host 1:-1  2:-1", "host 1:-1:2", "host 1:x", "host 01:-1",
		"draws", "draws ", "draws -1", "draws x", "draws 1  2", "draws 1000000000", "nat", "nat 1", "nat 1 2 3", "nat 0 5", "nat -1 5", "nat 1 x", "calm", "calm -1", "calm 2001", "calm 1 2", "calm x",
		"listen 1", "listen 1 2 3", "listen 1 2 ", "listen  1 2", " listen 1 2", "Listen 1 2", "listen", "nothing 1", " ", "tick", "tick x", "tick 1000000000", "tick 5\r",
		"send 0 0 0 0", "send 0 0 0", "send 0 0 0 x y", "forge 0 0 0 0 1 2 5 | 11 1", "forge 0 0 0 0", "forge 0 0 0 0 ", "forge 0 0 0 x 1 2 5 | 11 0", "connect 1 2 3 4 5 6", " # no", "bend 1", "deliver 1 2",
	} {
		if x, n, err := Parse("host 1:-1\n\n" + line + "\ntick x\n"); n != 3 || err != api.ErrLine || !reflect.DeepEqual(x, api.Script{}) {
			t.Errorf("%q: %d %v", line, n, err)
		}
	}
	if _, n, err := Parse("draws 1\nhost 1:-1"); n != 1 || err != api.ErrLine {
		t.Error("draws of no host", n, err)
	}
}

func TestTopo(t *testing.T) {
	for _, text := range []string{"", "\n", "tick 1", "host 1:0", "host 1:-2", "host 1:-1\nhost 1:-1", "nat 1 257\nhost 2:-1", "nat 1 -1\nhost 2:-1", "host 1:-1 2:-1 3:-1 4:-1 5:-1", "nat 5 5"} {
		if x, n, err := Parse(text); n != 0 || err != api.ErrTopo || !reflect.DeepEqual(x, api.Script{}) {
			t.Errorf("%q: %d %v", text, n, err)
		}
	}
	if _, n, err := Parse("nonsense"); n != 1 || err != api.ErrLine {
		t.Error("a line that says nothing goes first", n, err)
	}
}

func TestMuch(t *testing.T) {
	head := "host 1:-1\n"
	if _, n, err := Parse(head + strings.Repeat("\n", api.MostLines-1)); n != 0 || err != api.OK {
		t.Error("as many lines as may be", n, err)
	}
	if _, n, err := Parse(head + strings.Repeat("\n", api.MostLines-1) + "#"); n != 0 || err != api.ErrMuch {
		t.Error("too many lines", n, err)
	}
	comment := "#" + strings.Repeat("x", api.MostScript-len(head)-1)
	if _, n, err := Parse(head + comment); n != 0 || err != api.OK {
		t.Error("as many bytes as may be", n, err)
	}
	if x, n, err := Parse(head + comment + "x"); n != 0 || err != api.ErrMuch || !reflect.DeepEqual(x, api.Script{}) {
		t.Error("too many bytes", n, err)
	}
	if x, _, err := Parse(head + strings.Repeat("tick 1\n", api.MostLines-1)); err != api.OK || len(x.Acts) != api.MostLines-1 {
		t.Error("many acts", err)
	}
}
