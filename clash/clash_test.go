package clash

import (
	"testing"

	"crossway/api"
)

func TestOf(t *testing.T) {
	for _, c := range []struct {
		mine, yours, tieMine, tieYours uint32 // of the cookie, where the tags are 1 and 2
		want                           int
	}{
		{1, 2, 0, 0, api.ClashAgain}, {1, 2, 1, 2, api.ClashAgain}, {1, 3, 0, 0, api.ClashBoth}, {1, 3, 1, 2, api.ClashBoth},
		{3, 2, 0, 0, api.ClashDrop}, {3, 2, 1, 2, api.ClashNew}, {3, 2, 0, 2, api.ClashNew}, {3, 2, 1, 0, api.ClashNew},
		{3, 4, 1, 2, api.ClashBegin}, {3, 4, 1, 5, api.ClashNew}, {3, 4, 5, 2, api.ClashNew}, {3, 4, 0, 0, api.ClashNew}, {3, 4, 0, 2, api.ClashNew},
	} {
		if got := Of(api.Cookie{Mine: c.mine, Yours: c.yours, TieMine: c.tieMine, TieYours: c.tieYours}, 1, 2); got != c.want {
			t.Errorf("%+v: %d", c, got)
		}
	}
}

func TestOfNotKnown(t *testing.T) {
	for _, c := range []struct {
		mine, yours, tieMine, tieYours uint32 // where the own tag is 1, and the other one is not known
		want                           int
	}{
		{1, 2, 0, 0, api.ClashBoth}, {1, 0, 0, 0, api.ClashBoth}, {3, 0, 0, 0, api.ClashNew}, {3, 2, 1, 0, api.ClashBegin}, {3, 2, 0, 0, api.ClashNew},
	} {
		if got := Of(api.Cookie{Mine: c.mine, Yours: c.yours, TieMine: c.tieMine, TieYours: c.tieYours}, 1, 0); got != c.want {
			t.Errorf("%+v: %d", c, got)
		}
	}
	if Of(api.Cookie{Mine: 3, Yours: 4}, 0, 0) != api.ClashNew {
		t.Error("TieMine 0 is no tag")
	}
}
