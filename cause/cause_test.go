package cause

import (
	"slices"
	"strings"
	"testing"

	"crossway/api"
)

func TestMayAndPut(t *testing.T) {
	if !May(api.Cause{}) || !May(api.Cause{Code: 65535, Info: strings.Repeat("x", api.MostValue)}) || May(api.Cause{Code: -1}) || May(api.Cause{Code: 65536}) || May(api.Cause{Info: strings.Repeat("x", api.MostValue+1)}) {
		t.Error("May")
	}
	if Put(api.Cause{Code: 0xb1, Info: "abc"}) != "\x00\xb1\x00\x07abc\x00" || Put(api.Cause{Code: -1}) != "" {
		t.Error("Put")
	}
	if PutAll([]api.Cause{{Code: 1}, {Code: 65536}, {Code: 2}}) != "\x00\x01\x00\x04\x00\x02\x00\x04" || PutAll(nil) != "" {
		t.Error("PutAll")
	}
}

func TestAll(t *testing.T) {
	var l []api.Cause
	for n := range api.MostParams {
		l = append(l, api.Cause{Code: n, Info: strings.Repeat("i", n)})
	}
	if got, err := All(PutAll(l)); err != api.OK || !slices.Equal(got, l) {
		t.Error("All")
	}
	if got, err := All(PutAll(append(l, api.Cause{}))); err != api.ErrMuch || len(got) != 0 {
		t.Error("too many")
	}
	for s, want := range map[string]api.Errno{"": api.OK, "abc": api.ErrShort, "\x00\x01\x00\x03": api.ErrForm, "\x00\x01\x00\x05a\x00\x00\x01": api.ErrPad} {
		if got, err := All(s); err != want || len(got) != 0 {
			t.Errorf("All(%q): %v %v", s, got, err)
		}
	}
}

func TestFind(t *testing.T) {
	l := []api.Cause{{Code: 1, Info: "a"}, {Code: 2, Info: "b"}, {Code: 2, Info: "c"}}
	if c, ok := Find(l, 2); !ok || c.Info != "b" || !Has(l, 2) {
		t.Error("Find")
	}
	if c, ok := Find(l, 3); ok || c != (api.Cause{}) || Has(l, 3) || Has(nil, 0) {
		t.Error("Find of none")
	}
}

func TestKinds(t *testing.T) {
	if Put(Stream(3)) != "\x00\x01\x00\x08\x00\x03\x00\x00" || Stream(3).Info != "\x00\x03\x00\x00" || Stream(0x12345).Info != "\x23\x45\x00\x00" {
		t.Error("Stream")
	}
	if NoData(0x01020304) != (api.Cause{Code: api.CauseNoData, Info: "\x01\x02\x03\x04"}) || Stale(5) != (api.Cause{Code: api.CauseStale, Info: "\x00\x00\x00\x05"}) {
		t.Error("NoData, Stale")
	}
}
