package path

import (
	"math"
	"testing"

	"crossway/api"
	"crossway/rto"
)

func TestNew(t *testing.T) {
	p := New(1, 2)
	if p != (api.Path{Local: 1, Peer: 2, State: api.PathNew, Rto: rto.First(), Cwnd: 1800, Ssthresh: 60000}) {
		t.Errorf("New %+v", p)
	}
	q := Good(p)
	if !Same(p, q) || Same(p, New(1, 3)) || Same(p, New(3, 2)) || q.State != api.PathActive {
		t.Error("Same")
	}
}

func TestBadGood(t *testing.T) {
	p := Good(New(1, 2))
	for n := range 8 {
		p = Bad(p)
		want, state := min(n+1, 5), api.PathActive
		if want > 4 {
			state = api.PathDown
		}
		if p.Errors != want || p.State != state {
			t.Errorf("after %d errors: %+v", n+1, p)
		}
	}
	if p = Good(p); p.Errors != 0 || p.State != api.PathActive {
		t.Error("Good")
	}
	p.Errors = math.MaxInt
	if Bad(p).Errors != 5 {
		t.Error("errors beyond all")
	}
}

func TestGrow(t *testing.T) {
	p := New(1, 2)
	if Grow(p, 500, false) != p || Grow(p, 0, true) != p || Grow(p, -5, true) != p {
		t.Error("what does not grow")
	}
	if Grow(p, 500, true).Cwnd != 2300 || Grow(p, 601, true).Cwnd != 2400 || Grow(p, math.MaxInt, true).Cwnd != 2400 {
		t.Error("up to Ssthresh")
	}
	p.Ssthresh = 1800
	if Grow(p, 100, true).Cwnd != 1900 {
		t.Error("at Ssthresh")
	}
	p.Ssthresh = 1700
	if q := Grow(p, 1799, true); q.Cwnd != 1800 || q.Part != 1799 {
		t.Errorf("behind it %+v", q)
	}
	if q := Grow(Grow(p, 1799, true), 2, true); q.Cwnd != 2400 || q.Part != 1 {
		t.Errorf("by Mtu for a Cwnd %+v", q)
	}
	if q := Grow(p, 4300, true); q.Cwnd != 3000 || q.Part != 100 {
		t.Errorf("by Mtu for each Cwnd %+v", q)
	}
	p.Cwnd = 59900
	if q := Grow(p, 60000, true); q.Cwnd != 60000 || q.Part != 100 {
		t.Errorf("CwndMost %+v", q)
	}
	p.Ssthresh = 60000
	if Grow(p, 600, true).Cwnd != 60000 {
		t.Error("CwndMost, up to Ssthresh")
	}
	Grow(api.Path{Cwnd: 1, Part: math.MaxInt}, 1, true)
	Grow(api.Path{Cwnd: 1, Part: math.MaxInt - 60000}, 1, true)
	Grow(api.Path{Cwnd: -5, Ssthresh: -10, Part: 7}, 1, true)
	Grow(api.Path{Cwnd: math.MinInt, Ssthresh: math.MinInt}, 1, true)
}

func TestLostLate(t *testing.T) {
	p := New(1, 2)
	p.Cwnd, p.Part = 9000, 77
	if q := Lost(p); q.Ssthresh != 4500 || q.Cwnd != 4500 || q.Part != 0 || q.Rto != p.Rto {
		t.Errorf("Lost %+v", q)
	}
	if q := Late(p); q.Ssthresh != 4500 || q.Cwnd != 600 || q.Part != 0 || q.Rto.Wait != 60 {
		t.Errorf("Late %+v", q)
	}
	if q := Lost(New(1, 2)); q.Ssthresh != 2400 || q.Cwnd != 2400 {
		t.Errorf("Lost of a new one %+v", q)
	}
	if q := Late(New(1, 2)); q.Ssthresh != 2400 || Room(q) != 600 {
		t.Errorf("Late of a new one %+v", q)
	}
}

func TestTookRoom(t *testing.T) {
	if q := Took(New(1, 2), 10); q.Rto != rto.Measure(rto.First(), 10) || q.Cwnd != 1800 {
		t.Error("Took")
	}
	for _, c := range [][3]int{{1800, 0, 1800}, {100, 0, 600}, {1800, 300, 1500}, {1800, 1800, 0}, {600, 900, 0}, {600, 1, 599}, {-5, 0, 600}} {
		if Room(api.Path{Cwnd: c[0], Flight: c[1]}) != c[2] {
			t.Errorf("Room %v", c)
		}
	}
}
