package span

import (
	"math"
	"testing"
)

func TestLonger(t *testing.T) {
	const least, most = math.MinInt, math.MaxInt
	for _, x := range []struct {
		then, now, than int
		want            bool
	}{
		{5, 7, 1, true}, {5, 7, 2, false}, {7, 5, -2, false}, {7, 5, -3, true}, {0, most, most, false}, {-1, most, most, true}, {least, most, most, true}, {0, most, most - 1, true},
		{most, least, least, false}, {0, least, least, false}, {1, least, least, false}, {-1, least, least, true}, {0, 0, 0, false}, {0, 0, -1, true}, {least, least, least, true},
	} {
		if got := Longer(x.then, x.now, x.than); got != x.want {
			t.Errorf("Longer(%d, %d, %d): %v", x.then, x.now, x.than, got)
		}
	}
}

func TestSince(t *testing.T) {
	const least, most = math.MinInt, math.MaxInt
	for _, x := range []struct{ then, now, want int }{
		{0, 0, 0}, {5, 7, 2}, {7, 5, -2}, {-3, 4, 7}, {4, -3, -7}, {0, most, most}, {0, least, least},
		{least, most, most}, {most, least, least}, {-1, most, most}, {-5, most, most}, {2, least, least}, {1, least, least}, {least, 0, most}, {least, -1, most}, {most, -1, least}, {most, -2, least},
		{least, least, 0}, {most, most, 0}, {least, least + 1, 1}, {most, most - 1, -1},
	} {
		if got := Since(x.then, x.now); got != x.want {
			t.Errorf("Since(%d, %d): %d, not %d", x.then, x.now, got, x.want)
		}
	}
}
