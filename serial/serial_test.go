package serial

import "testing"

func TestLess(t *testing.T) {
	for _, c := range []struct {
		a, b uint32
		want bool
	}{
		{1, 2, true}, {2, 1, false}, {5, 5, false}, {1<<32 - 1, 0, true}, {0, 1<<32 - 1, false},
		{0, 1<<31 - 1, true}, {0, 1 << 31, false}, {1 << 31, 0, false}, {0, 1<<31 + 1, false},
	} {
		if got := Less(c.a, c.b); got != c.want {
			t.Errorf("Less(%d, %d) = %v", c.a, c.b, got)
		}
		if got := LessEq(c.a, c.b); got != (c.want || c.a == c.b) {
			t.Errorf("LessEq(%d, %d) = %v", c.a, c.b, got)
		}
	}
}

func TestDiff(t *testing.T) {
	for _, c := range []struct {
		a, b uint32
		want int
	}{
		{3, 1, 2}, {1, 3, -2}, {7, 7, 0}, {1<<32 - 1, 1, -2}, {1, 1<<32 - 1, 2},
		{1 << 31, 0, 1 << 31}, {0, 1 << 31, 1 << 31}, {1<<31 + 1, 0, 1 - 1<<31}, {1<<31 - 1, 0, 1<<31 - 1},
	} {
		if got := Diff(c.a, c.b); got != c.want {
			t.Errorf("Diff(%d, %d) = %d, not %d", c.a, c.b, got, c.want)
		}
	}
}

func TestBetween(t *testing.T) {
	if !Between(1, 1, 1) || !Between(1<<32-1, 0, 1) || Between(2, 1, 3) || Between(1, 4, 3) || !Between(1, 3, 3) {
		t.Error("Between")
	}
}

func TestLess16(t *testing.T) {
	if !Less16(1<<16-1, 0) || Less16(0, 0) || !Less16(0, 1<<15-1) || Less16(0, 1<<15) || Less16(1<<15, 0) || Less16(2, 1) {
		t.Error("Less16")
	}
}

func TestMax(t *testing.T) {
	if Max(1, 2) != 2 || Max(2, 1) != 2 || Max(1<<32-1, 0) != 0 || Max(0, 1<<32-1) != 0 {
		t.Error("Max")
	}
	if Max(0, 1<<31) != 0 || Max(1<<31, 0) != 1<<31 {
		t.Error("Max of two that do not come ahead of each other")
	}
}
