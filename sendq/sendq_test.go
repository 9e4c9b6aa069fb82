package sendq

import (
	"math"
	"reflect"
	"strings"
	"testing"

	"crossway/api"
)

func bytesOf(n int) string { return strings.Repeat("x", n) }

func take(t *testing.T, q *Queue) api.Chunk {
	t.Helper()
	many, _ := q.Peek()
	c, ok := q.Take()
	if !ok || many != len(c.Data) {
		t.Fatal("Take, Peek", many, c)
	}
	return c
}

func TestPlaces(t *testing.T) {
	q := New(2)
	for _, m := range []api.Message{{Data: "a", Ssn: 9}, {Data: "b", Proto: 7}, {Data: "c", Loose: true, Ssn: 9}, {Data: "d", Stream: 1}, {Data: "e"}} {
		if q.Put(m, 0) != api.OK {
			t.Fatal("Put")
		}
	}
	if q.Bytes() != 5 || q.Len() != 5 || q.Streams() != 2 {
		t.Error("how much waits")
	}
	for _, want := range []api.Chunk{{Flags: 3, Data: "a"}, {Flags: 3, Ssn: 1, Proto: 7, Data: "b"}, {Flags: 7, Data: "c"}, {Flags: 3, Stream: 1, Data: "d"}, {Flags: 3, Ssn: 2, Data: "e"}} {
		if c := take(t, q); !reflect.DeepEqual(c, want) {
			t.Errorf("%+v, not %+v", c, want)
		}
	}
	if c, ok := q.Take(); ok || !reflect.DeepEqual(c, api.Chunk{}) || q.Bytes() != 0 {
		t.Error("none waits")
	}
	if n, ok := q.Peek(); ok || n != 0 {
		t.Error("Peek of none")
	}
}

func TestParts(t *testing.T) {
	q := New(1)
	q.Put(api.Message{Data: bytesOf(450)}, 0)
	if q.Len() != 3 || len(take(t, q).Data) != 200 || len(take(t, q).Data) != 200 || len(take(t, q).Data) != 50 {
		t.Error("parts")
	}
}

func TestRound(t *testing.T) {
	q := New(1)
	for n := range 70000 {
		q.Put(api.Message{Data: "x"}, 0)
		if c, _ := q.Take(); c.Ssn != n&65535 {
			t.Fatal("place", c.Ssn)
		}
	}
}

func TestPutNot(t *testing.T) {
	q := New(2)
	for _, m := range []api.Message{{}, {Data: bytesOf(3001)}, {Stream: 2, Data: "x"}, {Stream: -1, Data: "x"}, {Stream: math.MaxInt, Data: "x"}} {
		if q.Put(m, math.MaxInt) != api.ErrInput {
			t.Errorf("stream %d, %d bytes", m.Stream, len(m.Data))
		}
	}
	if q.Put(api.Message{Data: "x"}, 6000) != api.ErrFull || q.Put(api.Message{Data: "x"}, math.MaxInt) != api.ErrFull || q.Len() != 0 {
		t.Error("what is under way")
	}
	if q.Put(api.Message{Data: bytesOf(3000)}, 3001) != api.ErrFull || q.Put(api.Message{Data: bytesOf(3000)}, 3000) != api.OK {
		t.Error("as much as may be under way")
	}
	if q.Put(api.Message{Data: bytesOf(2999)}, math.MinInt) != api.OK || q.Put(api.Message{Data: "xx"}, -5) != api.ErrFull || q.Put(api.Message{Data: "x"}, -5) != api.OK || q.Bytes() != 6000 {
		t.Error("as much as may wait")
	}
	q.Take()
	if q.Put(api.Message{Data: "x"}, 200) != api.ErrFull || q.Put(api.Message{Data: "x"}, 199) != api.OK {
		t.Error("behind one that was taken")
	}
	for q.Len() > 1 {
		q.Take()
	}
	if c, _ := q.Take(); c.Ssn != 3 {
		t.Error("what was refused took a place", c.Ssn)
	}
}

func TestGrow(t *testing.T) {
	for many, want := range map[int]int{-5: 1, 0: 1, 1: 1, 16: 16, 17: 16, math.MaxInt: 16, math.MinInt: 1} {
		if New(many).Streams() != want {
			t.Error("New", many)
		}
	}
	q := New(1)
	q.Put(api.Message{Data: "x"}, 0)
	q.Grow(-1)
	q.Grow(2)
	if q.Streams() != 3 || q.Put(api.Message{Stream: 2, Data: "x"}, 0) != api.OK || q.Put(api.Message{Stream: 3, Data: "x"}, 0) != api.ErrInput {
		t.Error("Grow")
	}
	q.Grow(math.MaxInt)
	if q.Streams() != 16 {
		t.Error("as many as may be")
	}
}

func TestNil(t *testing.T) {
	var q *Queue
	q.Grow(1)
	if c, ok := q.Take(); ok || !reflect.DeepEqual(c, api.Chunk{}) {
		t.Error("Take of nil")
	}
	if n, ok := q.Peek(); ok || n != 0 || q.Put(api.Message{Data: "x"}, 0) != api.ErrInput || q.Streams() != 0 || q.Bytes() != 0 || q.Len() != 0 {
		t.Error("nil")
	}
}
