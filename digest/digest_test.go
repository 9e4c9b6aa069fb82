package digest

import (
	"crypto/sha1"
	"encoding/hex"
	"strings"
	"testing"

	"crossway/api"
)

func TestOf(t *testing.T) {
	if hex.EncodeToString([]byte(Of("abc"))) != "a9993e364706816aba3e25717850c26c9cd0d89d" {
		t.Error("the digest of abc")
	}
	for n := range 300 {
		s := strings.Repeat("q\x00\xff\x80", n)[:n]
		want := sha1.Sum([]byte(s))
		if Of(s) != string(want[:]) || len(Of(s)) != api.DigestBytes {
			t.Errorf("the digest of %d bytes", n)
		}
	}
}
