package crcc

import (
	"hash/crc32"
	"math"
	"strings"
	"testing"
)

func TestOf(t *testing.T) {
	if Of("123456789") != 0xe3069283 || Of("") != 0 {
		t.Error("Of")
	}
	table := crc32.MakeTable(crc32.Castagnoli)
	for n := range 300 {
		s := strings.Repeat("a\x00\xff\x80z", n)[:n]
		if Of(s) != crc32.Checksum([]byte(s), table) {
			t.Errorf("Of %d bytes", n)
		}
	}
	for n := range 256 {
		s := string([]byte{byte(n)})
		if Of(s) != crc32.Checksum([]byte(s), table) {
			t.Errorf("Of byte %d", n)
		}
	}
}

func TestSeal(t *testing.T) {
	s := "ab....cd"
	sealed := Seal(s, 2)
	sum := Of("ab\x00\x00\x00\x00cd")
	want := "ab" + string([]byte{byte(sum), byte(sum >> 8), byte(sum >> 16), byte(sum >> 24)}) + "cd"
	if sealed != want || !Sealed(sealed, 2) || Sealed(s, 2) || Sealed(sealed, 1) {
		t.Errorf("Seal %x", sealed)
	}
	if Seal(s, 0) == "" || Seal(s, 4) == "" {
		t.Error("Seal at the edges")
	}
	for _, at := range []int{-1, 5, 8, math.MaxInt, math.MinInt} {
		if Seal(s, at) != "" || Sealed(s, at) {
			t.Errorf("Seal at %d", at)
		}
	}
	if Seal("", 0) != "" || Sealed("", 0) || Seal("abc", 0) != "" {
		t.Error("Seal of too few bytes")
	}
}

func TestSealedFindsEachBit(t *testing.T) {
	sealed := Seal("some bytes that are sealed", 8)
	for bit := range len(sealed) * 8 {
		b := []byte(sealed)
		b[bit/8] ^= 1 << (bit % 8)
		if Sealed(string(b), 8) {
			t.Errorf("bit %d", bit)
		}
	}
}
