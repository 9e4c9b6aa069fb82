package rto

import (
	"math"
	"testing"

	"crossway/api"
)

func TestMeasure(t *testing.T) {
	if First() != (api.Rto{Wait: 30}) {
		t.Error("First")
	}
	r := Measure(First(), 10)
	if r != (api.Rto{Mean: 10, Var: 5, Wait: 30, Known: true}) {
		t.Errorf("the first one: %+v", r)
	}
	r = Measure(r, 20)
	if r != (api.Rto{Mean: 11, Var: 6, Wait: 35, Known: true}) {
		t.Errorf("the second one: %+v", r)
	}
	r = Measure(r, 0)
	if r != (api.Rto{Mean: 9, Var: 7, Wait: 37, Known: true}) {
		t.Errorf("the third one: %+v", r)
	}
	for took, want := range map[int]int{-5: 10, 0: 10, math.MinInt: 10, 240: 240, 241: 240, math.MaxInt: 240, 3: 10, 4: 12, 5: 13} {
		if got := Measure(First(), took); got.Wait != want || got != Measure(First(), max(0, min(took, 240))) {
			t.Errorf("took %d: %+v", took, got)
		}
	}
	if Measure(api.Rto{Mean: 90, Var: 50, Wait: 60}, 10) != Measure(First(), 10) {
		t.Error("what is not known does not count")
	}
}

func TestLonger(t *testing.T) {
	for wait, want := range map[int]int{30: 60, 60: 120, 120: 240, 121: 240, 240: 240, 10: 20, 0: 20, -5: 20, math.MinInt: 20, math.MaxInt: 240, 1000: 240} {
		if got := Longer(api.Rto{Mean: 1, Var: 2, Wait: wait, Known: true}); got != (api.Rto{Mean: 1, Var: 2, Wait: want, Known: true}) {
			t.Errorf("longer than %d: %+v", wait, got)
		}
	}
}
