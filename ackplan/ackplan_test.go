package ackplan

import (
	"math"
	"testing"

	"crossway/api"
)

func TestCame(t *testing.T) {
	p, at := Came(Said(), 5, false)
	if at || p != (api.AckPlan{Wait: 1, Since: 5}) {
		t.Error("the first packet", p)
	}
	if q, at := Came(p, 6, false); !at || q != Said() {
		t.Error("the second packet")
	}
	if q, at := Came(p, 6, true); !at || q != Said() {
		t.Error("pressing")
	}
	if q, at := Came(Said(), 6, true); !at || q != (api.AckPlan{}) {
		t.Error("pressing at once")
	}
	for _, n := range []int{-1, math.MinInt} {
		if q, at := Came(api.AckPlan{Wait: n, Since: 3}, 6, false); at || q != (api.AckPlan{Wait: 1, Since: 6}) {
			t.Error("nothing waited", q)
		}
	}
	if _, at := Came(api.AckPlan{Wait: math.MaxInt}, 6, false); !at {
		t.Error("very many wait")
	}
}

func TestDue(t *testing.T) {
	p := api.AckPlan{Wait: 1, Since: 5}
	if Due(p, 5) || Due(p, 6) || !Due(p, 7) || !Due(p, 100) || Due(p, 0) || Due(Said(), 100) || Due(api.AckPlan{Since: 5}, 100) {
		t.Error("Due")
	}
}
