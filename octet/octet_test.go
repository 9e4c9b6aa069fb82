package octet

import (
	"math"
	"testing"

	"crossway/api"
)

func TestNumbersAsBytes(t *testing.T) {
	if U8(0x1ff) != "\xff" || U16(0x12345) != "\x23\x45" || U32(0x01020304) != "\x01\x02\x03\x04" || U64(0x0102030405060708) != "\x01\x02\x03\x04\x05\x06\x07\x08" {
		t.Error("numbers")
	}
	if U8(-1) != "\xff" || U16(-2) != "\xff\xfe" || U64(math.MaxUint64) != "\xff\xff\xff\xff\xff\xff\xff\xff" || U8(0) != "\x00" {
		t.Error("numbers at the edges")
	}
}

func TestFilled(t *testing.T) {
	for n, want := range []int{0, 3, 2, 1, 0, 3} {
		if Pad(n) != want {
			t.Errorf("Pad(%d) = %d", n, Pad(n))
		}
	}
	if Pad(-1) != 1 || Pad(math.MinInt) != 0 {
		t.Error("Pad below 0")
	}
	if Filled("abc") != "abc\x00" || Filled("") != "" || Filled("abcd") != "abcd" || Filled("a") != "a\x00\x00\x00" {
		t.Error("Filled")
	}
}

func TestReader(t *testing.T) {
	r := New("\x01\x02\x03\x04\x05\x06\x07\x01\x02\x03\x04\x05\x06\x07\x08abcd")
	if r.U8() != 1 || r.U16() != 0x203 || r.U32() != 0x4050607 || r.U64() != 0x0102030405060708 || r.Take(2) != "ab" || r.Left() != 2 {
		t.Error("reading")
	}
	if r.End() != api.ErrForm || r.Err() != api.OK || r.Rest() != "cd" || r.End() != api.OK || r.Take(0) != "" || r.Rest() != "" || r.Err() != api.OK {
		t.Error("the end")
	}
}

func TestReaderFails(t *testing.T) {
	for _, n := range []int{-1, 4, math.MaxInt, math.MinInt} {
		r := New("abc")
		if r.Take(n) != "" || r.Err() != api.ErrShort || r.Left() != 0 || r.U8() != 0 || r.Rest() != "" || r.End() != api.ErrShort {
			t.Errorf("Take(%d)", n)
		}
	}
	r := New("a")
	if r.U16() != 0 || r.Err() != api.ErrShort {
		t.Error("U16 of one byte")
	}
	r.Fail(api.ErrForm)
	if r.Err() != api.ErrShort {
		t.Error("the second error is told")
	}
	r = New("ab")
	r.Fail(api.OK)
	if r.Left() != 2 || r.Err() != api.OK {
		t.Error("OK is an error")
	}
	r.Fail(api.ErrMuch)
	if r.Left() != 0 || r.End() != api.ErrMuch || r.U8() != 0 || r.U32() != 0 || r.U64() != 0 {
		t.Error("behind an error")
	}
}

func TestFill(t *testing.T) {
	r := New("\x00\x00\x00x")
	r.Fill(1)
	if r.Err() != api.OK || r.Left() != 1 {
		t.Error("Fill(1)")
	}
	r.Fill(4)
	if r.Left() != 1 || r.Err() != api.OK {
		t.Error("Fill(4)")
	}
	r.Fill(2)
	if r.Err() != api.ErrPad || r.Left() != 0 {
		t.Error("what fills up is not 0")
	}
	r = New("\x00")
	r.Fill(1)
	if r.Err() != api.OK || r.End() != api.OK {
		t.Error("as far as there are bytes")
	}
	r = New("\x00\x01\x00")
	r.Fill(1)
	if r.Err() != api.ErrPad {
		t.Error("one that is not 0")
	}
}

func TestNil(t *testing.T) {
	var r *Reader
	r.Fail(api.ErrForm)
	r.Fill(3)
	if r.Err() != api.ErrShort || r.End() != api.ErrShort || r.Left() != 0 || r.Take(1) != "" || r.U8() != 0 || r.U16() != 0 || r.U32() != 0 || r.U64() != 0 || r.Rest() != "" {
		t.Error("nil")
	}
}
