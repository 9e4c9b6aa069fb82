package clone

import (
	"reflect"
	"testing"

	"crossway/api"
)

func TestChunks(t *testing.T) {
	made := func() []api.Chunk {
		return []api.Chunk{{Type: 1, Data: "d", Params: []api.Param{{Type: 1}}, Causes: []api.Cause{{Code: 2}}, Gaps: []api.Gap{{From: 2, To: 3}}, Dups: []uint32{4}}, {Type: 2}}
	}
	l := made()
	copies := Chunks(l)
	if !reflect.DeepEqual(copies, l) || Chunks(nil) != nil {
		t.Error("copies are others")
	}
	copies[0].Params[0].Type = 9
	copies[0].Causes[0].Code = 9
	copies[0].Gaps[0].From = 9
	copies[0].Dups[0] = 9
	copies[1].Type = 9
	if !reflect.DeepEqual(l, made()) {
		t.Error("what is done to a copy changes what was copied")
	}
}
