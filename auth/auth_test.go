package auth

import (
	"reflect"
	"testing"

	"crossway/api"
	"crossway/chunk"
	"crossway/mac"
)

func some() []api.Chunk {
	return []api.Chunk{{Type: api.ChunkConf, Tsn: 1, Params: []api.Param{{Type: 5, Value: "a"}}}, {Type: api.ChunkEchoAck}, {Type: api.ChunkConfAck, Tsn: 2}}
}

func TestKey(t *testing.T) {
	if Key("ab", "aa") != "aaab" || Key("aa", "ab") != "aaab" || Key("", "x") != "x" || Key("b", "ab") != "abb" || Key("", "") != "" {
		t.Error("Key")
	}
}

func TestSign(t *testing.T) {
	l := Sign("key", some())
	if len(l) != 4 || !reflect.DeepEqual(l[1:], some()) || l[0].Type != api.ChunkAuth || l[0].Stream != 0 || l[0].Ssn != 1 || l[0].Flags != 0 {
		t.Fatalf("%+v", l)
	}
	s := "\x0f\x00\x00\x1c\x00\x00\x00\x01" + string(make([]byte, 20))
	for _, c := range some() {
		s += chunk.Put(c)
	}
	if l[0].Data != mac.Of("key", s) {
		t.Error("the seal")
	}
	if alone := Sign("key", nil); len(alone) != 1 || len(alone[0].Data) != api.DigestBytes {
		t.Error("a seal of nothing")
	}
	if !reflect.DeepEqual(Pass("key", l), some()) {
		t.Error("Sign, Pass")
	}
	own := some()
	Sign("key", own)[1].Params[0].Type = 9
	Pass("key", Sign("key", own))[0].Params[0].Type = 9
	if own[0].Params[0].Type != 5 {
		t.Error("what is answered is the caller's own")
	}
}

func TestPass(t *testing.T) {
	echo := []api.Chunk{{Type: api.ChunkEchoAck}}
	if got := Pass("kez", Sign("key", some())); !reflect.DeepEqual(got, echo) {
		t.Errorf("another key: %+v", got)
	}
	if got := Pass("key", some()); !reflect.DeepEqual(got, echo) {
		t.Errorf("no seal: %+v", got)
	}
	for n, change := range []func(l []api.Chunk){
		func(l []api.Chunk) { l[1].Tsn++ }, func(l []api.Chunk) { l[3].Tsn++ }, func(l []api.Chunk) { l[0].Stream++ }, func(l []api.Chunk) { l[0].Ssn++ },
		func(l []api.Chunk) { l[0].Data += "x" }, func(l []api.Chunk) { l[0].Data = "" }, func(l []api.Chunk) { l[1].Params[0].Value = "b" }, func(l []api.Chunk) { l[0].Flags = 1 },
	} {
		l := Sign("key", some())
		change(l)
		if got := Pass("key", l); !reflect.DeepEqual(got, echo) {
			t.Errorf("%d: %+v", n, got)
		}
	}
	right := Sign("key", some()[:1])
	conf := some()[0]
	if got := Pass("key", append(some()[2:], right...)); len(got) != 1 || got[0].Type != api.ChunkConf {
		t.Errorf("what stands ahead of the seal: %+v", got)
	}
	wrong := api.Chunk{Type: api.ChunkAuth, Ssn: 1, Data: "wrong"}
	if got := Pass("key", []api.Chunk{wrong, right[0], conf}); len(got) != 1 {
		t.Errorf("the last seal is right: %+v", got)
	}
	first := Sign("key", []api.Chunk{wrong, conf})
	if got := Pass("key", first); len(got) != 0 {
		t.Errorf("the last seal is wrong: %+v", got)
	}
	if len(Pass("key", nil)) != 0 {
		t.Error("none")
	}
}
