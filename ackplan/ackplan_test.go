package ackplan

import (
	"math"
	"testing"

	"crossway/api"
)

func TestCame(t *testing.T) {
	p, at := Came(Said(), 5, false)
	if at || p != (api.AckPlan{Wait: 1, Since: 5}) {
		t.Error("the first packet", p)
	}
	if q, at := Came(p, 6, false); !at || q != Said() {
		t.Error("the second packet")
	}
	if q, at := Came(p, 6, true); !at || q != Said() {
		t.Error("pressing")
	}
	if q, at := Came(Said(), 6, true); !at || q != (api.AckPlan{}) {
		t.Error("pressing at once")
	}
	for _, n := range []int{-1, math.MinInt} {
		if q, at := Came(api.AckPlan{Wait: n, Since: 3}, 6, false); at || q != (api.AckPlan{Wait: 1, Since: 6}) {
			t.Error("nothing waited", q)
		}
	}
	if _, at := Came(api.AckPlan{Wait: math.MaxInt}, 6, false); !at {
		t.Error("very many wait")
	}
}

func TestDue(t *testing.T) {
	p := api.AckPlan{Wait: 1, Since: 5}
	if Due(p, 5) || Due(p, 6) || !Due(p, 7) || !Due(p, 100) || Due(p, 0) || Due(Said(), 100) || Due(api.AckPlan{Since: 5}, 100) {
		t.Error("Due")
	}
}

// Times may be so far apart that their difference goes round.
func TestDueFarApart(t *testing.T) {
	for _, x := range []struct {
		since, now int
		due        bool
	}{
		{2, math.MinInt, false}, {1, math.MinInt, false}, {math.MaxInt - 2, -10632428846226996, false}, {math.MaxInt, math.MinInt, false}, {math.MaxInt, math.MinInt + 1, false}, {0, math.MinInt, false},
		{math.MinInt, math.MaxInt, true}, {-1, math.MaxInt, true}, {math.MinInt, 0, true}, {0, math.MaxInt, true}, {math.MaxInt - 2, math.MaxInt, true}, {math.MaxInt - 1, math.MaxInt, false}, {math.MinInt, math.MinInt + 1, false}, {math.MinInt, math.MinInt + 2, true},
	} {
		for _, wait := range []int{math.MinInt, -1, 0, 1, 6, math.MaxInt} {
			if Due(api.AckPlan{Wait: wait, Since: x.since}, x.now) != (x.due && wait > 0) {
				t.Errorf("%d wait since %d, at %d", wait, x.since, x.now)
			}
		}
	}
}
