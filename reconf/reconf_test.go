package reconf

import (
	"math"
	"reflect"
	"testing"

	"crossway/api"
)

func TestParams(t *testing.T) {
	if p := More(7, 3); p != (api.Param{Type: api.ParamMore, Value: "\x00\x00\x00\x07\x00\x03\x00\x00"}) {
		t.Error("More", p)
	}
	if p := Result(7, 2); p != (api.Param{Type: api.ParamResult, Value: "\x00\x00\x00\x07\x00\x00\x00\x02"}) {
		t.Error("Result", p)
	}
	if id, many, ok := AsMore(More(7, 65535)); !ok || id != 7 || many != 65535 {
		t.Error("AsMore")
	}
	if id, what, ok := AsResult(Result(7, 1)); !ok || id != 7 || what != 1 {
		t.Error("AsResult")
	}
	for _, p := range []api.Param{More(7, 0), {}, {Type: api.ParamMore, Value: "abcdef\x00"}, {Type: api.ParamMore, Value: "abcdef\x00\x01"}, {Type: api.ParamMore, Value: "abcdef\x00\x00x"}, {Type: api.ParamResult, Value: More(7, 1).Value}} {
		if id, many, ok := AsMore(p); ok || id != 0 || many != 0 {
			t.Errorf("AsMore(%v)", p)
		}
	}
	for _, p := range []api.Param{Result(7, 0), Result(7, 3), {}, {Type: api.ParamResult, Value: "abcd\x00\x00\x01"}, {Type: api.ParamMore, Value: Result(7, 1).Value}, {Type: api.ParamResult, Value: Result(7, 1).Value + "x"}} {
		if id, what, ok := AsResult(p); ok || id != 0 || what != 0 {
			t.Errorf("AsResult(%v)", p)
		}
	}
}

func TestAsk(t *testing.T) {
	s := New(1<<32-1, 5)
	for _, n := range []int{0, -1, 17, math.MaxInt, math.MinInt} {
		if s.Ask(n) != api.ErrInput {
			t.Error("Ask", n)
		}
	}
	if c, ok := s.Send(1); ok || !reflect.DeepEqual(c, api.Chunk{}) || s.Want() != 0 || s.Times() != 0 {
		t.Error("nothing is asked for")
	}
	if s.Ask(16) != api.OK || s.Ask(1) != api.ErrFull || s.Ask(0) != api.ErrInput || s.Want() != 16 {
		t.Error("Ask")
	}
	if _, ok := s.At(); ok {
		t.Error("At of what was not sent")
	}
	if _, ok := s.Answer(chunkOf(1<<32-1, Result(1<<32-1, 1))); ok {
		t.Error("the answer of what was not sent")
	}
	c, ok := s.Send(4)
	if !ok || !reflect.DeepEqual(c, chunkOf(1<<32-1, More(1<<32-1, 16))) {
		t.Errorf("Send %+v", c)
	}
	s.Send(8)
	if at, ok := s.At(); !ok || at != 8 || s.Times() != 2 {
		t.Error("At", at)
	}
	for _, c := range []api.Chunk{chunkOf(0, Result(0, 1)), chunkOf(1<<32-1, Result(0, 1)), chunkOf(1<<32-1, More(1<<32-1, 1)), {Type: api.ChunkConf, Tsn: 1<<32 - 1, Params: []api.Param{Result(1<<32-1, 1)}}} {
		if n, ok := s.Answer(c); ok || n != 0 || s.Want() != 16 {
			t.Errorf("Answer %+v", c)
		}
	}
	if n, ok := s.Answer(chunkOf(1<<32-1, Result(1<<32-1, 1))); !ok || n != 16 || s.Want() != 0 || s.Times() != 0 {
		t.Error("done", n)
	}
	s.Ask(2)
	if c, _ := s.Send(9); c.Tsn != 0 {
		t.Error("the next number", c.Tsn)
	}
	if n, ok := s.Answer(chunkOf(0, Result(0, 2))); !ok || n != 0 || s.Want() != 0 {
		t.Error("denied", n)
	}
}

func TestAsked(t *testing.T) {
	s := New(1, 1<<32-1)
	done, denied := chunkOf(1<<32-1, Result(1<<32-1, 1)), chunkOf(0, Result(0, 2))
	for _, c := range []api.Chunk{chunkOf(0, More(0, 1)), chunkOf(1<<32-2, More(1<<32-2, 1)), chunkOf(1<<32-1, More(0, 1)), done, {}, {Type: api.ChunkConf, Tsn: 1<<32 - 1, Params: []api.Param{More(1<<32-1, 1)}}} {
		if n, answer, ok := s.Asked(c, 1); ok || n != 0 || !reflect.DeepEqual(answer, api.Chunk{}) {
			t.Errorf("Asked %+v", c)
		}
	}
	one := chunkOf(1<<32-1, More(1<<32-1, 3))
	if n, answer, ok := s.Asked(one, 13); !ok || n != 3 || !reflect.DeepEqual(answer, done) {
		t.Error("done", n, answer)
	}
	for range 2 {
		n, answer, ok := s.Asked(one, 16)
		if !ok || n != 0 || !reflect.DeepEqual(answer, done) {
			t.Error("the same one again", n, answer)
		}
		answer.Params[0].Type = 9
	}
	if n, answer, ok := s.Asked(chunkOf(0, More(0, 3)), 15); !ok || n != 0 || !reflect.DeepEqual(answer, denied) {
		t.Error("3, of 15", n, answer)
	}
	if n, answer, ok := s.Asked(chunkOf(0, More(0, 3)), 1); !ok || n != 0 || !reflect.DeepEqual(answer, denied) {
		t.Error("the same one, with more room", n, answer)
	}
	if n, _, ok := s.Asked(chunkOf(1, More(1, 65535)), math.MaxInt); !ok || n != 0 {
		t.Error("very many")
	}
}

func TestNil(t *testing.T) {
	var s *Streams
	_, at := s.At()
	_, sent := s.Send(1)
	_, answered := s.Answer(chunkOf(0, Result(0, 1)))
	n, c, asked := s.Asked(chunkOf(0, More(0, 1)), 1)
	if s.Ask(1) != 0 || s.Want() != 0 || s.Times() != 0 || at || sent || answered || asked || n != 0 || !reflect.DeepEqual(c, api.Chunk{}) {
		t.Error("nil")
	}
}
