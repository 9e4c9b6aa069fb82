package cookie

import (
	"math"
	"strings"
	"testing"

	"crossway/api"
	"crossway/mac"
	"crossway/octet"
)

func one() api.Cookie {
	return api.Cookie{Made: 5, Mine: 1, Yours: 2, MyTsn: 3, YourTsn: 4, Peer: 5, Local: 6, PeerPort: 7, MyPort: 8, Rwnd: 9, Out: 10, In: 11, TieMine: 12, TieYours: 13,
		MyRandom: strings.Repeat("m", 16), Random: strings.Repeat("r", 16)}
}

func TestBytes(t *testing.T) {
	want := "\x00\x00\x00\x00\x00\x00\x00\x05"
	for _, n := range []uint32{1, 2, 3, 4, 5, 6} {
		want += octet.U32(n)
	}
	want += "\x00\x07\x00\x08\x00\x00\x00\x09\x00\x0a\x00\x0b\x00\x00\x00\x0c\x00\x00\x00\x0d" + one().MyRandom + one().Random
	if Bytes(one()) != want {
		t.Errorf("Bytes %q", Bytes(one()))
	}
	if Put("key", one()) != want+mac.Of("key", want) {
		t.Error("Put")
	}
}

func TestMay(t *testing.T) {
	for n, change := range []func(c *api.Cookie){
		func(c *api.Cookie) { c.Made = -1 }, func(c *api.Cookie) { c.Mine = 0 }, func(c *api.Cookie) { c.Yours = 0 },
		func(c *api.Cookie) { c.MyPort = 65536 }, func(c *api.Cookie) { c.PeerPort = -1 }, func(c *api.Cookie) { c.Out = -1 }, func(c *api.Cookie) { c.In = 65536 },
		func(c *api.Cookie) { c.MyRandom = "" }, func(c *api.Cookie) { c.Random += "x" },
	} {
		c := one()
		change(&c)
		if May(c) || Bytes(c) != "" || Put("key", c) != "" {
			t.Errorf("%d may be", n)
		}
	}
	c := one()
	c.Made, c.TieMine, c.TieYours, c.Peer = math.MaxInt, 0, 0, 0
	if !May(one()) || !May(c) {
		t.Error("May")
	}
}

func TestGet(t *testing.T) {
	s := Put("key", one())
	for _, now := range []int{5, 0, -7, math.MinInt, 605} {
		if c, by, err := Get("key", s, now); c != one() || by != 0 || err != api.OK {
			t.Errorf("at %d: %v %v", now, by, err)
		}
	}
	for now, want := range map[int]int{606: 1, 1605: 1000, math.MaxInt: math.MaxInt - 605} {
		if c, by, err := Get("key", s, now); c != one() || by != want || err != api.ErrStale {
			t.Errorf("at %d: %v %v", now, by, err)
		}
	}
}

func sealed(body string) string { return body + mac.Of("key", body) }

func TestGetNot(t *testing.T) {
	s := Put("key", one())
	body := Bytes(one())
	for bad, want := range map[string]api.Errno{
		"": api.ErrShort, s[:19]: api.ErrShort, s[:20]: api.ErrSeal, s + "x": api.ErrSeal, Put("kez", one()): api.ErrSeal,
		sealed(""): api.ErrShort, sealed(body[:len(body)-1]): api.ErrShort, sealed(body + "x"): api.ErrForm,
		sealed("\x80" + body[1:]): api.ErrForm, sealed(body[:8] + "\x00\x00\x00\x00" + body[12:]): api.ErrForm, sealed(body[:12] + "\x00\x00\x00\x00" + body[16:]): api.ErrForm,
	} {
		if c, by, err := Get("key", bad, 10000); err != want || c != (api.Cookie{}) || by != 0 {
			t.Errorf("Get(%q): %v, not %v", bad, err, want)
		}
	}
}
