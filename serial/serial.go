// Package serial is layer 1: numbers that go round.
package serial

const (
	half   = 1 << 31
	half16 = 1 << 15
)

// Less tells whether a number comes ahead of another one, of numbers that go round.
func Less(a, b uint32) bool {
	return a != b && b-a < half
}

// LessEq tells whether it does, or is it.
func LessEq(a, b uint32) bool {
	return a == b || Less(a, b)
}

// Diff is how far a number is behind another one; below 0: ahead of it.
func Diff(a, b uint32) int {
	steps := a - b
	if steps > half {
		return int(steps) - 2*half
	}
	return int(steps)
}

// Between tells whether a number is not ahead of one, and not behind another one.
func Between(from, n, to uint32) bool {
	return LessEq(from, n) && LessEq(n, to)
}

// Less16 tells whether a number comes ahead of another one, of numbers of 16 bits that go round.
func Less16(a, b uint16) bool {
	return a != b && b-a < half16
}

// Max is the later one of two numbers; of two that do not come ahead of each other the first one.
func Max(a, b uint32) uint32 {
	if Less(a, b) {
		return b
	}
	return a
}
