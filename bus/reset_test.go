package bus_test

import (
	"math/rand"
	"slices"
	"testing"

	"tandem/api"
	"tandem/bus"
)

func TestReset(t *testing.T) {
	for _, cycle := range []int{100, 101} {
		for _, five := range []bool{false, true} {
			for _, inhibit := range []bool{false, true} {
				m := fresh(t, nrom()).Mem()
				m.Cycle, m.Open, m.Nmi, m.Line = cycle, 0x5a, true, true
				m.Raster = api.Raster{Line: 250, Dot: 9, Odd: true, Vbl: true, Nmi: true, Draw: true}
				m.Video.V, m.Video.T, m.Video.X, m.Video.W, m.Video.Wide, m.Video.Grey = 0x1234, 0x2345, 5, true, true, true
				m.Video.Buf, m.Video.Io, m.Video.OamAt, m.Video.Oam[9], m.Video.Nt[9] = 1, 2, 3, 4, 5
				m.Clock = api.Clock{Latch: 9, Count: 8, Pre: 7, Hold: 6, Ctl: 31, Flag: true, Over: true, Five: five, Inhibit: inhibit, Frame: !inhibit, At: 500, Beats: 40}
				m.Pads = api.Pads{Strobe: true, Held: [2]uint8{1, 2}, Shift: [2]uint8{3, 4}}
				m.Dma = api.Dma{On: true, Page: 4, Step: 33, Val: 99}
				m.Ram[7], m.Work[7] = 70, 71
				b := from(t, nrom(), m)
				b.Reset()
				m.Line = false
				m.Raster = api.Raster{Line: 250, Dot: 9, Odd: true, Vbl: true}
				m.Video.T, m.Video.X, m.Video.W, m.Video.Wide, m.Video.Grey, m.Video.Buf = 0, 0, false, false, false, 0
				m.Clock = api.Clock{Latch: 9, Count: 8, Hold: 6, Five: five, Inhibit: inhibit, At: 500, Wait: uint8(3 + cycle%2), Beats: 40}
				m.Dma = api.Dma{}
				same(t, "P10.16: Reset", b.Mem(), m)
			}
		}
	}
}

// The board's registers, the log and the stores stay; so does what the raster has of the race.
func TestResetLeaves(t *testing.T) {
	b := turned(t, mmc3(), func(m *api.Mem) { m.Raster = api.Raster{Line: 241, Nmi: true, Hold: true} })
	writes(b, 0x8000, 6, 0x8001, 5, 0xc000, 9, 0xe001, 0, 0x0003, 4, 0x6003, 4)
	board := b.Mem().Board
	b.Reset()
	if m := b.Mem(); m.Board != board || m.Cycle != 6 {
		t.Errorf("P10.16: the board behind a reset: %+v, want %+v", m.Board, board)
	}
	if l := b.Log(); len(l) != 4 || l[3] != (api.Access{Cycle: 3, Addr: 0xe001, Write: true}) {
		t.Errorf("P10.16: the log behind a reset: %+v", l)
	}
	if s := b.Stores(); !slices.Equal(s, []int{3, 2051}) {
		t.Errorf("P10.16: the stores behind a reset: %v", s)
	}
	b = turned(t, nrom(), func(m *api.Mem) { m.Raster = api.Raster{Line: 241, Nmi: true, Hold: true} })
	b.Reset()
	if m := b.Mem(); m.Raster != (api.Raster{Line: 241, Hold: true}) {
		t.Errorf("P10.16: the raster behind a reset: %+v", m.Raster)
	}
}

func TestAnyReset(t *testing.T) {
	r := rand.New(rand.NewSource(1016))
	for _, c := range carts() {
		for range 30 {
			m := anyMem(r, c)
			b, x := from(t, c, m), tell(c, m)
			b.Reset()
			x.Reset()
			same(t, "P10.16: Reset", b.Mem(), x.Mem)
			if !bus.Valid(c, b.Mem()) {
				t.Errorf("P10.17: a memory behind Reset isn't valid: %+v", b.Mem().Clock)
			}
		}
	}
}
