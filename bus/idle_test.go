package bus_test

import (
	"math/rand"
	"testing"

	"tandem/api"
)

func TestIdleIsManyCycles(t *testing.T) {
	r := rand.New(rand.NewSource(1006))
	for _, c := range carts() {
		for range 6 {
			m := anyMem(r, c)
			n := some(r, 1, 2, 1+r.Intn(200), 1+r.Intn(40000))
			at := from(t, c, m)
			at.Idle(n)
			ones := from(t, c, m)
			for range n {
				ones.Idle(1)
			}
			same(t, "P10.6: Idle of many and Idle of one, many times", at.Mem(), ones.Mem())
			x := tell(c, m)
			x.Idle(n)
			same(t, "P10.6: Idle, cycle by cycle", at.Mem(), x.Mem)
			if l := at.Log(); len(l) != 0 {
				t.Errorf("P10.6: Idle logs %v", l)
			}
		}
	}
}

// The latch is set by a rise anywhere among the cycles, and by none where the line just stays high.
func TestIdleOverRises(t *testing.T) {
	frame := 29781
	for _, x := range []struct {
		name      string
		at        api.Raster
		n         int
		line, nmi bool
	}{
		{"up to the cycle ahead of it", api.Raster{Nmi: true}, 27393, false, false},
		{"up to it", api.Raster{Nmi: true}, 27394, true, true},
		{"over it and the fall", api.Raster{Nmi: true}, 27394 + 2274, false, true},
		{"over two frames", api.Raster{Nmi: true}, 2 * frame, false, true},
		{"the line stays high", api.Raster{Line: 250, Vbl: true, Nmi: true}, 1000, true, false},
		{"the line falls", api.Raster{Line: 250, Vbl: true, Nmi: true}, 2000, false, false},
		{"the line rises again", api.Raster{Line: 250, Vbl: true, Nmi: true}, frame, true, true},
		{"no NMI is asked for", api.Raster{}, frame, false, false},
		{"the flag is held back", api.Raster{Line: 241, Nmi: true, Hold: true}, 1000, false, false},
	} {
		b := turned(t, nrom(), func(m *api.Mem) { m.Raster = x.at })
		b.Idle(x.n)
		if m := b.Mem(); m.Line != x.line || m.Nmi != x.nmi {
			t.Errorf("P10.6: %s: Line %v, Nmi %v", x.name, m.Line, m.Nmi)
		}
	}
}

func TestIdleBounds(t *testing.T) {
	r := rand.New(rand.NewSource(1013))
	for _, c := range carts() {
		m := anyMem(r, c)
		left := api.EndCycle - m.Cycle
		for _, n := range []int{0, -1, least, left + 1, left + 2, api.EndCycle + 1, greatest} {
			if n == 0 || n < 0 || n > left {
				b := from(t, c, m)
				b.Idle(n)
				b.Settle(n, m.Open+1)
				same(t, "P10.6, P10.13: nothing happens", b.Mem(), m)
			}
		}
		for _, n := range []int{1, left - 1, left} {
			a, b := from(t, c, m), from(t, c, m)
			a.Idle(n)
			b.Settle(n, m.Open+1)
			if a.Cycle() != m.Cycle+n {
				t.Errorf("P10.6: Idle(%d) from cycle %d: %d", n, m.Cycle, a.Cycle())
			}
			want := a.Mem()
			want.Open++
			same(t, "P10.13: Settle", b.Mem(), want)
		}
	}
}

// However many cycles go by at once, or in which parts: the end is the same.
func TestGreatIdle(t *testing.T) {
	r := rand.New(rand.NewSource(1061))
	for _, c := range carts() {
		for range 20 {
			m := anyMem(r, c)
			n := some(r, api.EndCycle-m.Cycle, 1<<61, 1<<40+r.Intn(1000000), 1000000000)
			at, parts := from(t, c, m), from(t, c, m)
			at.Idle(n)
			first := some(r, 1, r.Intn(n-1)+1, n-1, min(n-1, 1+r.Intn(100000)))
			parts.Idle(first)
			parts.Idle(n - first)
			same(t, "P10.6: Idle in two parts", at.Mem(), parts.Mem())
		}
	}
}

// Loads and Stores, and then Settle, leave what the accesses one by one leave.
func TestSettleBehindPlainAccesses(t *testing.T) {
	r := rand.New(rand.NewSource(1131))
	for _, c := range carts() {
		m := anyMem(r, c)
		quick, slow := from(t, c, m), from(t, c, m)
		for range 30 {
			n, last := 0, quick.Mem().Open
			for range 1 + r.Intn(12) {
				addr := some(r, edges[r.Intn(len(edges))], uint16(r.Intn(65536)))
				write := flip(r)
				if !quick.Plain(addr, write) {
					continue
				}
				n++
				if write {
					last = anyByte(r)
					quick.Store(addr, last)
					slow.Write(addr, last)
				} else {
					last = quick.Load(addr)
					reads(t, "P10.13: a plain access", slow, addr, last)
				}
			}
			quick.Settle(n, last)
			same(t, "P10.13: accesses that are plain", quick.Mem(), slow.Mem())
		}
		if l := slow.Log(); len(l) != 0 {
			t.Errorf("P10.15: plain accesses are logged: %v", l)
		}
	}
}
