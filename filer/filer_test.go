package filer

import (
	"math"
	"slices"
	"strings"
	"testing"

	"crossway/api"
	"crossway/octet"
)

func object(id uint32, size int) api.Object {
	return api.Object{ID: id, Data: strings.Repeat("0123456789", size/10+1)[:size]}
}

func head(id, size, at uint32) string { return octet.U32(id) + octet.U32(size) + octet.U32(at) }

func TestPiece(t *testing.T) {
	o := object(7, 1200)
	for at, want := range map[int]string{0: head(7, 1200, 0) + o.Data[:500], 500: head(7, 1200, 500) + o.Data[500:1000], 1000: head(7, 1200, 1000) + o.Data[1000:]} {
		if Piece(o, at) != want {
			t.Error("Piece", at)
		}
	}
	for _, at := range []int{-1, -500, 1, 499, 1200, 1500, math.MaxInt, math.MinInt} {
		if Piece(o, at) != "" {
			t.Error("Piece", at)
		}
	}
	if Piece(object(1, 0), 0) != head(1, 0, 0) || Piece(object(1, 0), 500) != "" || Piece(object(1, 1000), 1000) != "" || Piece(object(1, 20001), 0) != "" || Piece(object(1, 20000), 19500) == "" {
		t.Error("Piece at the edges")
	}
}

func TestSender(t *testing.T) {
	s := NewSender()
	if _, ok := s.Peek(); ok || s.Len() != 0 {
		t.Error("NewSender")
	}
	s.Done()
	a, b, c := object(1, 1000), object(2, 700), object(3, 0)
	if s.Put(a) != api.OK || s.Put(b) != api.OK || s.Put(c) != api.OK || s.Put(object(1, 5)) != api.ErrInput || s.Put(object(9, 20001)) != api.ErrInput || s.Len() != 3 {
		t.Error("Put")
	}
	for n, want := range []string{Piece(a, 0), Piece(b, 0), Piece(c, 0), Piece(a, 500), Piece(b, 500)} {
		if m, ok := s.Peek(); !ok || m != want {
			t.Error("by turns", n)
		}
		if m, _ := s.Peek(); m != want {
			t.Error("Peek takes nothing", n)
		}
		s.Done()
	}
	if _, ok := s.Peek(); ok || s.Len() != 0 || s.Put(object(1, 5)) != api.OK {
		t.Error("all was sent")
	}
	for n := range api.MostObjects - 1 {
		s.Put(object(uint32(n+10), 1))
	}
	if s.Put(object(99, 1)) != api.ErrFull || s.Put(object(10, 1)) != api.ErrInput || s.Len() != api.MostObjects {
		t.Error("too many")
	}
}

func TestReceiver(t *testing.T) {
	r := NewReceiver()
	o := object(5, 20000)
	var l []string
	for at := 0; at < len(o.Data); at += api.PieceBytes {
		l = append(l, Piece(o, at))
	}
	slices.Reverse(l)
	for n, s := range l {
		got, ok, err := r.Take(s)
		if n < len(l)-1 && (ok || err != api.OK || got != (api.Object{}) || r.Len() != 1) {
			t.Error("it is not whole", n)
		}
		if n == len(l)-1 && (!ok || err != api.OK || got != o || r.Len() != 0) {
			t.Error("it is whole")
		}
		if n == 3 {
			r.Take(s)
		}
	}
	for _, o := range []api.Object{object(1, 0), object(2, 1), object(3, 500)} {
		if got, ok, err := r.Take(Piece(o, 0)); !ok || err != api.OK || got != o || r.Len() != 0 {
			t.Error("one piece", o.ID)
		}
	}
}

func TestTakeNot(t *testing.T) {
	r := NewReceiver()
	r.Take(Piece(object(1, 1000), 0))
	for _, s := range []string{"", "short", head(2, 5, 0), head(2, 5, 0) + "abcdef", head(2, 0, 0) + "x", head(2, 0, 500), head(2, 5, 5), head(2, 600, 1) + strings.Repeat("x", 500), head(2, 20001, 0) + strings.Repeat("x", 500), head(2, 1000, 1000), head(2, 1<<32-1, 0) + strings.Repeat("x", 500), Piece(object(1, 1001), 500), Piece(object(1, 1), 0)} {
		if o, ok, err := r.Take(s); ok || err != api.ErrForm || o != (api.Object{}) || r.Len() != 1 {
			t.Errorf("%.20q: %v", s, err)
		}
	}
	for n := range api.MostObjects - 1 {
		r.Take(Piece(object(uint32(n+10), 600), 0))
	}
	if o, ok, err := r.Take(Piece(object(99, 600), 0)); ok || err != api.ErrFull || o != (api.Object{}) || r.Len() != api.MostObjects {
		t.Error("too many", err)
	}
	if _, ok, err := r.Take(Piece(object(98, 1), 0)); ok || err != api.ErrFull {
		t.Error("a new object beyond MostObjects", err)
	}
	if o, ok, err := r.Take(Piece(object(10, 600), 500)); !ok || err != api.OK || o != object(10, 600) {
		t.Error("one that is there")
	}
}

func TestTogether(t *testing.T) {
	s, r := NewSender(), NewReceiver()
	for n := range 10 {
		s.Put(object(uint32(n), 777*n))
	}
	got := 0
	for s.Len() > 0 {
		m, _ := s.Peek()
		s.Done()
		if o, ok, err := r.Take(m); err != api.OK || ok && o != object(o.ID, 777*int(o.ID)) {
			t.Error("Take", err)
		} else if ok {
			got++
		}
	}
	if got != 10 || r.Len() != 0 {
		t.Error("all objects", got)
	}
}

func TestNil(t *testing.T) {
	var s *Sender
	s.Done()
	_, peek := s.Peek()
	var r *Receiver
	o, ok, err := r.Take(Piece(object(1, 1), 0))
	if s.Put(object(1, 1)) != api.ErrInput || s.Len() != 0 || peek || o != (api.Object{}) || ok || err != api.ErrForm || r.Len() != 0 {
		t.Error("nil")
	}
	var none Receiver
	if _, _, err := none.Take(Piece(object(1, 600), 0)); err != api.OK || none.Len() != 1 {
		t.Error("one that NewReceiver did not make")
	}
}
