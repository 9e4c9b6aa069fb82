package asconf

import (
	"reflect"
	"testing"

	"crossway/api"
	"crossway/cause"
	"crossway/param"
)

func conf(id uint32, l ...api.Param) api.Chunk {
	return api.Chunk{Type: api.ChunkConf, Tsn: id, Params: l}
}

func ack(id uint32, l ...api.Param) api.Chunk {
	return api.Chunk{Type: api.ChunkConfAck, Tsn: id, Params: l}
}

func TestAsker(t *testing.T) {
	a := NewAsker(1<<32 - 1)
	if _, ok := a.First(); ok || a.Len() != 0 || a.Times() != 0 {
		t.Error("NewAsker")
	}
	if c, ok := a.Send(1, 2, 3); ok || !reflect.DeepEqual(c, api.Chunk{}) || a.Times() != 0 {
		t.Error("Send of none")
	}
	for _, what := range []int{0, api.ParamDone, api.ParamAddr, -1} {
		if a.Put(api.Ask{What: what}) != api.ErrInput {
			t.Error("another kind", what)
		}
	}
	one := api.Ask{What: api.ParamAdd, Addr: 7, Local: 8}
	two := api.Ask{What: api.ParamDelete, Local: 9}
	if a.Put(one) != api.OK || a.Put(two) != api.OK || a.Len() != 2 {
		t.Error("Put")
	}
	if _, ok := a.At(); ok {
		t.Error("At of one that was not sent")
	}
	if _, ok := a.Answer(ack(1<<32 - 1)); ok {
		t.Error("the answer of one that was not sent")
	}
	c, ok := a.Send(5, 2, 3)
	if !ok || !reflect.DeepEqual(c, conf(1<<32-1, param.Addr(0), param.Request(api.ParamAdd, 1<<32-1, 7), param.Tags(1<<32-1, 2, 3))) {
		t.Errorf("Send %+v", c)
	}
	if again, _ := a.Send(9, 2, 3); !reflect.DeepEqual(again, c) || a.Times() != 2 {
		t.Error("sent again")
	}
	if at, ok := a.At(); !ok || at != 9 {
		t.Error("At", at)
	}
	for _, c := range []api.Chunk{ack(0), conf(1<<32 - 1), ack(1<<32 - 2)} {
		if d, ok := a.Answer(c); ok || d != (api.Done{}) || a.Len() != 2 {
			t.Errorf("answer %+v", c)
		}
	}
	if d, ok := a.Answer(ack(1<<32-1, param.Answer(5, "why"))); !ok || d != (api.Done{Ask: one, OK: true}) || a.Len() != 1 || a.Times() != 0 {
		t.Error("answered", d)
	}
	if x, ok := a.First(); !ok || x != two {
		t.Error("First")
	}
	if c, ok := a.Send(10, 2, 3); !ok || c.Tsn != 0 {
		t.Error("the next number", c.Tsn)
	}
	if d, ok := a.Answer(ack(0, param.Answer(0, ""), param.Answer(0, "why"))); !ok || d != (api.Done{Ask: two}) || a.Len() != 0 {
		t.Error("refused", d)
	}
}

func TestAskerFull(t *testing.T) {
	a := NewAsker(1)
	for range api.MostAsks {
		if a.Put(api.Ask{What: api.ParamFirst}) != api.OK {
			t.Error("Put")
		}
	}
	if a.Put(api.Ask{What: api.ParamFirst}) != api.ErrFull || a.Put(api.Ask{}) != api.ErrInput || a.Len() != api.MostAsks {
		t.Error("too many")
	}
	a.Send(0, 1, 2)
	a.Answer(ack(1))
	if a.Put(api.Ask{What: api.ParamFirst}) != api.OK {
		t.Error("room again")
	}
}

func TestAnswerer(t *testing.T) {
	a := NewAnswerer(1<<32 - 1)
	add, del := param.Request(api.ParamAdd, 70, 0), param.Request(api.ParamDelete, 71, 5)
	c := conf(1<<32-1, param.Addr(0), add, del, param.Tags(1, 2, 3), param.Request(api.ParamFirst, 72, 6))
	if l := Asked(c); !reflect.DeepEqual(l, []api.Param{add, del, param.Request(api.ParamFirst, 72, 6)}) {
		t.Errorf("Asked %v", l)
	}
	isNew, last, ok := a.Take(c)
	if !isNew || ok || !reflect.DeepEqual(last, api.Chunk{}) {
		t.Error("a new one")
	}
	if isNew, _, _ := a.Take(c); !isNew {
		t.Error("it is new until it is answered")
	}
	for _, c := range []api.Chunk{conf(0), conf(1<<32 - 2), ack(1<<32 - 1)} {
		if isNew, last, ok := a.Take(c); isNew || ok || !reflect.DeepEqual(last, api.Chunk{}) {
			t.Errorf("Take %+v", c)
		}
	}
	want := ack(1<<32-1, param.Answer(70, ""), param.Answer(71, cause.Put(api.Cause{Code: api.CauseAddr})), param.Answer(72, ""))
	if got := a.Give(c, []int{0, api.CauseAddr}); !reflect.DeepEqual(got, want) {
		t.Errorf("Give %+v", got)
	}
	for range 2 {
		isNew, last, ok := a.Take(c)
		if isNew || !ok || !reflect.DeepEqual(last, want) {
			t.Error("the same request twice")
		}
		last.Params[0].Type = 1
	}
	if isNew, _, _ := a.Take(conf(0)); !isNew {
		t.Error("the next one")
	}
	if got := a.Give(conf(0, add), []int{1 << 20}); len(got.Params) != 1 || got.Params[0].Type != api.ParamError {
		t.Error("a cause that may not be")
	}
	if _, _, ok := a.Take(c); ok {
		t.Error("an old one")
	}
	if isNew, last, ok := a.Take(conf(0)); isNew || !ok || last.Tsn != 0 {
		t.Error("the last one")
	}
}

func TestTogether(t *testing.T) {
	asker, answerer := NewAsker(9), NewAnswerer(9)
	for n, code := range []int{0, api.CauseLast, 0} {
		asker.Put(api.Ask{What: api.ParamDelete, Addr: api.Addr(n)})
		c, _ := asker.Send(n, 1, 2)
		if isNew, _, _ := answerer.Take(c); !isNew {
			t.Fatal("new")
		}
		if d, ok := asker.Answer(answerer.Give(c, []int{code})); !ok || d.OK != (code == 0) || d.Ask.Addr != api.Addr(n) {
			t.Errorf("%d: %+v", n, d)
		}
	}
}

func TestNil(t *testing.T) {
	var a *Asker
	_, first := a.First()
	_, at := a.At()
	_, sent := a.Send(1, 2, 3)
	_, answered := a.Answer(ack(0))
	if a.Put(api.Ask{What: api.ParamAdd}) != 0 || a.Len() != 0 || a.Times() != 0 || first || at || sent || answered {
		t.Error("nil Asker")
	}
	var b *Answerer
	isNew, _, ok := b.Take(conf(0))
	if isNew || ok || !reflect.DeepEqual(b.Give(conf(0), nil), api.Chunk{}) || len(Asked(api.Chunk{})) != 0 {
		t.Error("nil Answerer")
	}
}
