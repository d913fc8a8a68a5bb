package bus_test

import (
	"math/rand"
	"slices"
	"testing"

	"tandem/api"
)

// expected is the accesses of a DMA whose halt cycle has that number; under is the byte at PC.
func expected(cycle int, page uint8, pc uint16, under uint8, bytes func(i int) uint8) []api.Access {
	l := []api.Access{{Cycle: cycle, Addr: pc, Val: under}}
	if cycle%2 == 0 {
		l = append(l, api.Access{Cycle: cycle + 1, Addr: pc, Val: under})
	}
	for i := range 256 {
		next := l[len(l)-1].Cycle + 1
		l = append(l,
			api.Access{Cycle: next, Addr: uint16(page)<<8 | uint16(i), Val: bytes(i)},
			api.Access{Cycle: next + 1, Addr: 0x2004, Val: bytes(i), Write: true})
	}
	return l
}

func TestDmaAccesses(t *testing.T) {
	for wait := range 5 {
		for _, page := range []uint8{2, 7, 0x0a, 0x1f} {
			b := fresh(t, nrom())
			bytes := func(i int) uint8 { return uint8(i*3 + 1) }
			for i := range 256 {
				b.Store(uint16(page)<<8+uint16(i), bytes(i))
			}
			b.Idle(wait)
			b.Write(0x4014, page)
			want := expected(wait+1, page, 0x9007, 0x1007%251, bytes)
			var got []api.Access
			for b.Dma() && len(got) < 1000 {
				a := b.DmaStep(0x9007)
				got = append(got, a)
				if m := b.Mem(); m.Open != a.Val || m.Cycle != a.Cycle+1 {
					t.Fatalf("P10.10: behind %+v: open bus %#x, cycle %d", a, m.Open, m.Cycle)
				}
			}
			if !slices.Equal(got, want) {
				t.Errorf("P10.10: page %#x, written in cycle %d: %d accesses, want %d", page, wait, len(got), len(want))
			}
			m := b.Mem()
			if m.Dma != (api.Dma{}) || b.Dma() {
				t.Errorf("P10.10: behind it Dma is %+v", m.Dma)
			}
			for i, v := range m.Video.Oam {
				want := bytes(i)
				if i%4 == 2 {
					want &= 0xe3
				}
				if v != want {
					t.Fatalf("P10.10: Oam[%d] is %#x, want %#x", i, v, want)
				}
			}
		}
	}
}

// The step and the value that is held, behind each step.
func TestDmaSteps(t *testing.T) {
	for odd := range 2 {
		b := turned(t, nrom(), func(m *api.Mem) {
			m.Cycle = odd
			for i := range 256 {
				m.Ram[0x300+i] = uint8(200 - i)
			}
		})
		b.Write(0x4014, 3)
		if d := b.Mem().Dma; d != (api.Dma{On: true, Page: 3}) {
			t.Errorf("P10.4: a write to $4014: %+v", d)
		}
		b.DmaStep(0)
		want := api.Dma{On: true, Page: 3, Step: 2 - odd}
		for want.Step < 514 {
			if d := b.Mem().Dma; d != want {
				t.Fatalf("P10.10: Dma is %+v, want %+v", d, want)
			}
			want.Step++
			want.Val = 0
			if want.Step%2 == 1 {
				want.Val = uint8(200 - (want.Step-3)/2)
			}
			b.DmaStep(0)
		}
		if d := b.Mem().Dma; d != (api.Dma{}) {
			t.Errorf("P10.10: behind the last step: %+v", d)
		}
	}
}

// From each kind of page: what is read is read like any other, and logged like any other.
func TestDmaPages(t *testing.T) {
	r := rand.New(rand.NewSource(1010))
	for _, c := range carts() {
		for _, page := range []uint8{0x00, 0x08, 0x1f, 0x20, 0x3f, 0x40, 0x41, 0x5f, 0x60, 0x7f, 0x80, 0xc0, 0xff} {
			m := anyMem(r, c)
			m.Dma = api.Dma{}
			b, x := from(t, c, m), tell(c, m)
			b.Write(0x4014, page)
			x.Write(0x4014, page)
			pc := some(r, edges...)
			for n := 0; x.Dma.On && n < 1000; n++ {
				if got, want := b.DmaStep(pc), x.DmaStep(pc); got != want {
					t.Fatalf("P10.10: page %#x, step %d: %+v, want %+v", page, n, got, want)
				}
			}
			same(t, "P10.10: a copied page", b.Mem(), x.Mem)
			if got, want := b.Log(), x.Log(); !slices.Equal(got, want) {
				t.Errorf("P10.15: page %#x: %d accesses are logged, want %d", page, len(got), len(want))
			}
			if s := b.Stores(); len(s) != 0 {
				t.Errorf("P10.15: DMA stores %v", s)
			}
		}
	}
}

func TestDmaBrokenOff(t *testing.T) {
	for _, steps := range []int{0, 1, 2, 3, 4, 100, 512} {
		b := fresh(t, nrom())
		b.Write(0x4014, 2)
		for range steps {
			b.DmaStep(0)
		}
		if !b.Dma() {
			t.Errorf("P10.10: DMA is over behind %d steps", steps)
		}
		b.Reset()
		m := b.Mem()
		if b.Dma() || m.Dma != (api.Dma{}) {
			t.Errorf("P10.16: DMA goes on behind a reset: %+v", m.Dma)
		}
		if a := b.DmaStep(7); a != (api.Access{}) {
			t.Errorf("P10.10: DmaStep without DMA makes %+v", a)
		}
		same(t, "P10.10: DmaStep without DMA", b.Mem(), m)
	}
}

// Another page takes the first one's place; other cycles in between shift the reads' parity and nothing else.
func TestDmaWrittenAgain(t *testing.T) {
	for _, steps := range []int{0, 1, 3, 200} {
		b := fresh(t, nrom())
		b.Write(0x4014, 2)
		for range steps {
			b.DmaStep(0)
		}
		b.Write(0x4014, 0x81)
		if d := b.Mem().Dma; d != (api.Dma{On: true, Page: 0x81}) {
			t.Errorf("P10.10: another page behind %d steps: %+v", steps, d)
		}
		b.DmaStep(0)
		for b.Mem().Dma.Step != 2 {
			b.DmaStep(0)
		}
		if a := b.DmaStep(0); a.Addr != 0x8100 || a.Cycle%2 != 0 {
			t.Errorf("P10.10: its first read is %+v", a)
		}
		b.Idle(1)
		if a := b.DmaStep(0); a.Addr != 0x2004 || !a.Write || a.Cycle%2 != 0 || a.Val != uint8(0x100%251) {
			t.Errorf("P10.10: its first write, a cycle late, is %+v", a)
		}
	}
}
