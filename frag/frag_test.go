package frag

import (
	"math"
	"reflect"
	"testing"

	"crossway/api"
)

func TestSplit(t *testing.T) {
	m := api.Message{Stream: 1, Ssn: 2, Proto: 3, Data: "abc"}
	part := func(flags int, data string) api.Chunk {
		return api.Chunk{Flags: flags, Stream: 1, Ssn: 2, Proto: 3, Data: data}
	}
	for size, want := range map[int][]api.Chunk{
		2: {part(2, "ab"), part(1, "c")}, 3: {part(3, "abc")}, 4: {part(3, "abc")}, math.MaxInt: {part(3, "abc")},
		1: {part(2, "a"), part(0, "b"), part(1, "c")}, 0: {part(2, "a"), part(0, "b"), part(1, "c")}, math.MinInt: {part(2, "a"), part(0, "b"), part(1, "c")},
	} {
		if got := Split(m, size); !reflect.DeepEqual(got, want) {
			t.Errorf("by %d: %+v", size, got)
		}
	}
	m.Loose = true
	if got := Split(m, 2); !reflect.DeepEqual(got, []api.Chunk{part(6, "ab"), part(5, "c")}) {
		t.Errorf("a loose one: %+v", got)
	}
	if len(Split(api.Message{Stream: 1}, 5)) != 0 {
		t.Error("one without bytes")
	}
}
