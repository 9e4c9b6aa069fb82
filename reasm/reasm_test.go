package reasm

import (
	"testing"

	"crossway/api"
)

func part(tsn uint32, flags int, data string) api.Chunk {
	return api.Chunk{Tsn: tsn, Flags: flags, Stream: 1, Ssn: 2, Proto: tsn, Data: data}
}

const (
	begin = api.FlagBegin
	end   = api.FlagEnd
	loose = api.FlagLoose
)

func TestWhole(t *testing.T) {
	p := New()
	if m, ok := p.Add(part(5, begin|end, "alone")); !ok || m != (api.Message{Stream: 1, Ssn: 2, Proto: 5, Data: "alone"}) || p.Len() != 0 || p.Bytes() != 0 {
		t.Error("one part")
	}
	if m, ok := p.Add(part(5, begin|end|loose, "l")); !ok || m != (api.Message{Stream: 1, Loose: true, Proto: 5, Data: "l"}) {
		t.Error("a loose one has no place")
	}
	if _, ok := p.Add(part(1, begin, "be")); ok || p.Len() != 1 || p.Bytes() != 2 {
		t.Error("a part waits")
	}
	if m, ok := p.Add(part(2, end, "end")); !ok || m.Data != "beend" || m.Proto != 1 || p.Len() != 0 || p.Bytes() != 0 {
		t.Error("begin, then end")
	}
}

func TestAnyOrder(t *testing.T) {
	parts := []api.Chunk{part(1<<32-2, begin, "a"), part(1<<32-1, 0, "b"), part(0, 0, ""), part(1, end, "d")}
	for n := range 24 {
		left := append([]api.Chunk(nil), parts...)
		p := New()
		for k := 4; k > 0; k-- {
			at := n % k
			n /= k
			m, ok := p.Add(left[at])
			left = append(left[:at], left[at+1:]...)
			if ok != (k == 1) || ok && (m.Data != "abd" || m.Proto != 1<<32-2) {
				t.Errorf("%v %v", m, ok)
			}
		}
		if p.Len() != 0 || p.Bytes() != 0 {
			t.Error("parts stay")
		}
	}
}

func TestNotTogether(t *testing.T) {
	for n, change := range []func(c *api.Chunk){
		func(c *api.Chunk) { c.Stream++ }, func(c *api.Chunk) { c.Ssn++ }, func(c *api.Chunk) { c.Flags |= loose }, func(c *api.Chunk) { c.Tsn++ }, func(c *api.Chunk) { c.Flags = 0 }, func(c *api.Chunk) { c.Flags = begin },
	} {
		c := part(2, end, "end")
		change(&c)
		p := New()
		p.Add(part(1, begin, "begin"))
		if _, ok := p.Add(c); ok || p.Len() != 2 || p.Bytes() != 8 {
			t.Errorf("%d is whole", n)
		}
	}
	p := New()
	p.Add(part(1, begin, "x"))
	p.Add(part(2, begin, "y"))
	if m, ok := p.Add(part(3, end, "z")); !ok || m.Data != "yz" || p.Len() != 1 {
		t.Error("from the last begin")
	}
	p = New()
	p.Add(part(3, end, "z"))
	p.Add(part(2, end, "y"))
	if m, ok := p.Add(part(1, begin, "x")); !ok || m.Data != "xy" || p.Len() != 1 {
		t.Error("to the first end")
	}
	p.Add(part(9, 0, "m"))
	if _, ok := p.Add(part(9, begin|end, "again")); ok || p.Len() != 2 {
		t.Error("a number that waits already")
	}
}

func TestNil(t *testing.T) {
	var p *Parts
	if m, ok := p.Add(part(1, begin|end, "x")); ok || m != (api.Message{}) || p.Len() != 0 || p.Bytes() != 0 {
		t.Error("nil")
	}
	var none Parts
	if _, ok := none.Add(part(1, begin, "x")); ok || none.Len() != 1 {
		t.Error("parts that New did not make")
	}
}
