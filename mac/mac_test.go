package mac

import (
	"crypto/hmac"
	"crypto/sha1"
	"encoding/hex"
	"strings"
	"testing"
)

func TestOf(t *testing.T) {
	if hex.EncodeToString([]byte(Of("", ""))) != "fbdb1d1b18aa6c08324b7d64b71fb76370690e1d" {
		t.Error("the seal of nothing")
	}
	for _, n := range []int{0, 1, 20, 63, 64, 65, 100, 200} {
		key := strings.Repeat("k\xffy", n)[:n]
		h := hmac.New(sha1.New, []byte(key))
		h.Write([]byte("some bytes"))
		if Of(key, "some bytes") != string(h.Sum(nil)) {
			t.Errorf("a key of %d bytes", n)
		}
	}
}

func TestIs(t *testing.T) {
	seal := Of("key", "s")
	if !Is("key", "s", seal) || Is("kez", "s", seal) || Is("key", "t", seal) || Is("key", "s", "") || Is("key", "s", seal[:19]) || Is("key", "s", seal+"\x00") {
		t.Error("Is")
	}
	for bit := range len(seal) * 8 {
		b := []byte(seal)
		b[bit/8] ^= 1 << (bit % 8)
		if Is("key", "s", string(b)) {
			t.Errorf("bit %d", bit)
		}
	}
}
