package host

import (
	"crossway/api"
	"crossway/octet"
)

// drawer draws numbers: those that were given, then by a rule; none of them is 0.
type drawer struct {
	given []uint32
	seed  uint64
}

const (
	factor = 6364136223846793005
	step   = 1442695040888963407
)

// seedOf is another number for other addresses, or another key: hosts must not draw the same tags.
func seedOf(addrs []api.Addr, key string) uint64 {
	seed := uint64(step)
	stir := func(n uint64) { seed = (seed^n)*factor + step }
	for _, a := range addrs {
		stir(uint64(a))
	}
	for n := range len(key) {
		stir(uint64(key[n]))
	}
	return seed
}

func (d *drawer) draw() uint32 {
	for {
		if n := d.next(); n != 0 {
			return n
		}
	}
}

func (d *drawer) next() uint32 {
	if len(d.given) > 0 {
		n := d.given[0]
		d.given = d.given[1:]
		return n
	}
	d.seed = d.seed*factor + step
	return uint32(d.seed >> 32)
}

// random is RandomBytes bytes.
func (d *drawer) random() string {
	s := ""
	for len(s) < api.RandomBytes {
		s += octet.U32(d.draw())
	}
	return s
}

// drawTag is a tag that none of its associations has.
func (h *Host) drawTag() uint32 {
	for {
		if tag := h.drawer.draw(); !h.has(tag) {
			return tag
		}
	}
}

func (h *Host) has(tag uint32) bool {
	for _, a := range h.assocs {
		if a.Setup().Mine == tag {
			return true
		}
	}
	return false
}
