package deliver

import (
	"math"
	"testing"

	"crossway/api"
)

func message(stream, ssn int, data string) api.Message {
	return api.Message{Stream: stream, Ssn: ssn, Proto: 3, Data: data}
}

func TestOrder(t *testing.T) {
	s := New(2)
	if !s.Put(message(0, 1, "one")) || s.Ready() != 0 || s.Bytes() != 3 {
		t.Error("one that waits")
	}
	if _, ok := s.Read(); ok {
		t.Error("it can't be read")
	}
	if !s.Put(message(1, 0, "other")) || s.Ready() != 1 || !s.Put(message(0, 0, "null")) || s.Ready() != 3 || s.Bytes() != 12 {
		t.Error("those that can be read")
	}
	for _, want := range []api.Message{message(1, 0, "other"), message(0, 0, "null"), message(0, 1, "one")} {
		if m, ok := s.Read(); !ok || m != want {
			t.Errorf("read %+v, not %+v", m, want)
		}
	}
	if m, ok := s.Read(); ok || m != (api.Message{}) || s.Bytes() != 0 || s.Ready() != 0 {
		t.Error("none is left")
	}
}

func TestLoose(t *testing.T) {
	s := New(1)
	m := api.Message{Loose: true, Ssn: 5, Data: "l"}
	if !s.Put(m) || !s.Put(m) || s.Ready() != 2 || s.Bytes() != 2 {
		t.Error("loose ones")
	}
	if got, ok := s.Read(); !ok || got != m {
		t.Error("a loose one is read")
	}
	if !s.Put(message(0, 0, "x")) {
		t.Error("it takes no place")
	}
}

func TestPutNot(t *testing.T) {
	s := New(2)
	s.Put(message(0, 0, "x"))
	s.Put(message(0, 3, "y"))
	for _, m := range []api.Message{message(2, 0, "z"), message(-1, 0, "z"), message(math.MaxInt, 0, "z"), {Stream: 2, Loose: true, Data: "z"}, message(0, 0, "z"), message(0, 3, "z"), message(0, 65535, "z"), message(0, -1, "z"), message(0, 65536, "z"), message(0, 65539, "z"), message(0, 3-65536, "z"), message(0, -65536, "z"), message(1, -1, "z"), message(1, 65535, "z"), message(1, 32769, "z"), message(1, math.MaxInt, "z")} {
		if s.Put(m) {
			t.Errorf("%+v comes", m)
		}
	}
	if s.Bytes() != 2 || s.Ready() != 1 {
		t.Error("what did not come changed something")
	}
}

func TestRound(t *testing.T) {
	s := New(1)
	for n := range 70000 {
		place := n ^ 1
		if !s.Put(message(0, place&65535, "d")) {
			t.Fatal("place", place)
		}
		if n%2 == 1 {
			for k := range 2 {
				if m, ok := s.Read(); !ok || m.Ssn != (n-1+k)&65535 {
					t.Fatal("read", m)
				}
			}
		}
	}
}

// Of a place 16 bits count; a message is read as it was put.
func TestPlaceBeyond16Bits(t *testing.T) {
	s := New(1)
	for n, ssn := range []int{65536, 1 - 65536, 2, math.MinInt + 3, 4 + 7*65536} {
		if !s.Put(message(0, ssn, "d")) || s.Ready() != 1 || s.Bytes() != 1 {
			t.Error("place", n)
		}
		if s.Put(message(0, ssn, "d")) || s.Put(message(0, n, "d")) {
			t.Error("twice", n)
		}
		if m, ok := s.Read(); !ok || m != message(0, ssn, "d") {
			t.Errorf("read %+v", m)
		}
		if s.Put(message(0, ssn, "d")) || s.Put(message(0, n, "d")) || s.Bytes() != 0 {
			t.Error("it was read already", n)
		}
	}
	if !s.Put(message(0, 65536+6, "d")) || s.Ready() != 0 || s.Put(message(0, 6, "d")) || !s.Put(message(0, 5+32767, "d")) || !s.Put(message(0, 5, "d")) || s.Ready() != 2 {
		t.Error("those that wait")
	}
}

func TestGrow(t *testing.T) {
	for many, want := range map[int]int{-5: 1, 0: 1, 1: 1, 16: 16, 17: 16, math.MaxInt: 16, math.MinInt: 1} {
		if New(many).Many() != want {
			t.Error("New", many)
		}
	}
	s := New(3)
	s.Put(message(0, 1, "waits"))
	s.Grow(0)
	s.Grow(-2)
	if s.Many() != 3 {
		t.Error("Grow by none")
	}
	s.Grow(2)
	if s.Many() != 5 || !s.Put(message(4, 0, "x")) || s.Put(message(5, 0, "x")) || s.Bytes() != 6 {
		t.Error("Grow")
	}
	s.Grow(math.MaxInt)
	if s.Many() != 16 {
		t.Error("as many as may be")
	}
}

func TestNil(t *testing.T) {
	var s *Streams
	s.Grow(3)
	if m, ok := s.Read(); ok || m != (api.Message{}) || s.Put(message(0, 0, "x")) || s.Many() != 0 || s.Bytes() != 0 || s.Ready() != 0 {
		t.Error("nil")
	}
}
