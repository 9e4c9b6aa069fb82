package strange

import (
	"reflect"
	"slices"
	"strings"
	"testing"

	"crossway/api"
	"crossway/chunk"
	"crossway/param"
)

func TestBits(t *testing.T) {
	for typ, want := range map[int]int{0: 1, 0x3f: 1, 0x40: 3, 0x7f: 3, 0x80: 0, 0xbf: 0, 0xc0: 2, 0xff: 2} {
		if Chunk(typ) != want || Param(typ<<8) != want || Param(typ<<8|255) != want {
			t.Errorf("%x: %d %d", typ, Chunk(typ), Param(typ<<8))
		}
	}
}

func TestParams(t *testing.T) {
	known := []int{1, 5, 7, 8, 16, 17, 32770, 49153, 49154, 49155, 49156, 49157, 49159, 49160}
	var l []api.Param
	for _, typ := range known {
		l = append(l, api.Param{Type: typ, Value: "v"})
	}
	if looked, told := Params(l); !slices.Equal(looked, l) || len(told) != 0 {
		t.Error("all that are known")
	}
	if looked, told := Params(nil); len(looked)+len(told) != 0 {
		t.Error("none")
	}
	last := api.Param{Type: api.ParamInfo}
	for typ, want := range map[int][2]bool{0x1000: {false, false}, 0x4000: {false, true}, 0x8000: {true, false}, 0xc000: {true, true}} {
		p := api.Param{Type: typ, Value: "abc"}
		looked, told := Params([]api.Param{l[0], p, last})
		if len(looked) != 1 && !want[0] || len(looked) != 2 && want[0] || looked[0] != l[0] {
			t.Errorf("%x: looked at %v", typ, looked)
		}
		if want[1] && !slices.Equal(told, []api.Param{{Type: api.ParamUnknown, Value: param.Put(p)}}) || !want[1] && len(told) != 0 {
			t.Errorf("%x: told %v", typ, told)
		}
	}
	for n, want := range map[int]int{996: 1, 997: 0, 1000: 0, 1001: 0} {
		if _, told := Params([]api.Param{{Type: 0xc000, Value: strings.Repeat("x", n)}}); len(told) != want {
			t.Errorf("%d bytes are told %d times", n, len(told))
		}
	}
}

func TestChunks(t *testing.T) {
	echo := api.Chunk{Type: api.ChunkEchoAck}
	sack := api.Chunk{Type: api.ChunkSack, Dups: []uint32{7}}
	for typ, want := range map[int][2]bool{0x3f: {false, false}, 0x40: {false, true}, 0x81: {true, false}, 0xc0: {true, true}} {
		c := api.Chunk{Type: typ, Flags: 5, Data: "abc"}
		looked, told := Chunks([]api.Chunk{sack, c, echo})
		if len(looked) != 1 && !want[0] || len(looked) != 2 && want[0] || !reflect.DeepEqual(looked[0], sack) {
			t.Errorf("%x: looked at %v", typ, looked)
		}
		if want[1] && !slices.Equal(told, []api.Cause{{Code: api.CauseChunk, Info: chunk.Put(c)}}) || !want[1] && len(told) != 0 {
			t.Errorf("%x: told %v", typ, told)
		}
	}
	if looked, told := Chunks([]api.Chunk{{Type: api.ChunkConfAck}, {Type: 0x80 + 1}}); len(looked) != 1 || len(told) != 0 {
		t.Error("0x80 is known")
	}
	if _, told := Chunks(slices.Repeat([]api.Chunk{{Type: 0xc0}}, 20)); len(told) != api.MostParams {
		t.Error("as many as may be told", len(told))
	}
	if _, told := Chunks([]api.Chunk{{Type: 0xc0, Tsn: 1}, {Type: 0xc0, Data: strings.Repeat("x", 901)}, {Type: 0xc0, Data: strings.Repeat("x", 900)}}); len(told) != 1 {
		t.Error("what may not be is told", len(told))
	}
	looked, _ := Chunks([]api.Chunk{sack})
	looked[0].Dups[0] = 9
	if sack.Dups[0] != 7 {
		t.Error("what is answered is the caller's own")
	}
}
