// Package span is how far times are from each other. It is no layer: those that hold times against each other share it.
package span

import "math"

// Since is how long ago a time was; below 0: it is yet to come. Of times so far apart that the number would go round it is the nearest number there is.
func Since(then, now int) int {
	d := now - then
	switch {
	case now >= then && d < 0:
		return math.MaxInt
	case now < then && d >= 0:
		return math.MinInt
	}
	return d
}

// Longer tells whether a time was longer ago than so much; what is beyond all numbers is longer than any.
func Longer(then, now, than int) bool {
	beyond := now >= then && now-then < 0
	return beyond || Since(then, now) > than
}
