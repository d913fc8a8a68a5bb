package mapper_test

import (
	"math"
	"testing"

	"tandem/api"
	"tandem/mapper"
)

// wantBoard holds a board against one with some fields changed.
func wantBoard(t *testing.T, name string, got, b api.Board, change func(b *api.Board)) {
	t.Helper()
	change(&b)
	if got != b {
		t.Errorf("P2.4: %s: %+v, want %+v", name, got, b)
	}
}

func TestWriteNowhere(t *testing.T) {
	for _, kind := range kinds {
		for _, sub := range subs[kind] {
			b := boardOf(t, kind, sub, 4, 2)
			for addr := 0; addr < 0x8000; addr += 0x1f1 {
				wantBoard(t, "below $8000", mapper.Write(b, uint16(addr), 0x81, 0xff, 7), b, func(*api.Board) {})
			}
			wantBoard(t, "at $7FFF", mapper.Write(b, 0x7fff, 0x81, 0xff, 7), b, func(*api.Board) {})
			for _, cycle := range []int{-1, -2, -3, math.MinInt} {
				for _, addr := range []uint16{0x8000, 0x8001, 0xa001, 0xc001, 0xe001, 0xffff} {
					wantBoard(t, "a cycle below 0", mapper.Write(b, addr, 0x81, 0xff, cycle), b, func(*api.Board) {})
				}
			}
		}
	}
	for _, addr := range []uint16{0x8000, 0x8001, 0xa000, 0xc001, 0xe001, 0xffff} {
		b := boardOf(t, 0, 0, 4, 2)
		wantBoard(t, "NROM", mapper.Write(b, addr, 0xff, 0xff, 0), b, func(*api.Board) {})
	}
}

func TestWriteLatch(t *testing.T) {
	for _, kind := range []int{2, 3, 7} {
		for _, sub := range subs[kind] {
			b := boardOf(t, kind, sub, 1, 2)
			for _, addr := range []uint16{0x8000, 0x9abc, 0xc001, 0xffff} {
				for _, cycle := range []int{0, 1, math.MaxInt} {
					v := uint8(0xb5)
					if sub == 2 {
						v = 0xb5 & 0x97
					}
					wantBoard(t, "the latch", mapper.Write(b, addr, 0xb5, 0x97, cycle), b, func(b *api.Board) { b.Latch = v })
				}
			}
		}
	}
}

// TestWriteMMC1Bits: the four bits ahead of the fifth change the serial register alone, whatever is there beside bit 0 and bit 7.
func TestWriteMMC1Bits(t *testing.T) {
	for _, sub := range subs[1] {
		for i, addr := range []uint16{0x8000, 0xbfff, 0xc000, 0xffff, 0x9fff, 0xa000, 0xdfff, 0xe000} {
			b := boardOf(t, 1, sub, 1, 2)
			for n, shift := range []uint8{0x18, 0x0c, 0x16, 0x1b} {
				v := []uint8{0x7f, 0x7e, 0x01, 0x41}[n]
				c := mapper.Write(b, addr, v, 0, 2*n)
				wantBoard(t, "a bit", c, b, func(b *api.Board) { b.Shift, b.Last = shift, 2*n })
				b = c
			}
			c := mapper.Write(b, addr, 0x7e, 0xff, 8)
			wantBoard(t, "the fifth bit", c, b, func(b *api.Board) {
				b.Shift, b.Last = 0x10, 8
				switch i {
				case 0, 4:
					b.Ctrl = 0x0d
				case 1, 5:
					b.ChrA = 0x0d
				case 2, 6:
					b.ChrB = 0x0d
				default:
					b.PrgR = 0x0d
				}
			})
		}
	}
}

// TestWriteMMC1Register: the fifth write alone names the register.
func TestWriteMMC1Register(t *testing.T) {
	b := boardOf(t, 1, 0, 1, 2)
	for n := range 32 {
		v := uint8(n)
		c := written(b, store{0xe000, v & 1}, store{0xa000, v >> 1 & 1}, store{0xa000, v >> 2 & 1}, store{0x8000, v >> 3 & 1}, store{0xc000, v >> 4})
		if c.ChrB != v || c.Ctrl != 0x0c || c.ChrA != 0 || c.PrgR != 0 || c.Shift != 0x10 {
			t.Errorf("P2.4: %d to ChrB: %+v", n, c)
		}
	}
}

func TestWriteMMC1Lost(t *testing.T) {
	b := boardOf(t, 1, 0, 1, 2)
	for _, at := range []int{0, 1, 5, api.MaxCycle, math.MaxInt - 3} {
		first := mapper.Write(b, 0x8000, 1, 0, at)
		if first.Shift != 0x18 || first.Last != at {
			t.Errorf("P2.4: the first write, at %d: %+v", at, first)
		}
		for _, v := range []uint8{0, 1, 0x80, 0xff} {
			second := mapper.Write(first, 0x8000, v, 0, at+1)
			wantBoard(t, "a neighbour is lost", second, first, func(b *api.Board) { b.Last = at + 1 })
			third := mapper.Write(second, 0x8000, v, 0, at+2)
			wantBoard(t, "a neighbour of the lost one is lost", third, first, func(b *api.Board) { b.Last = at + 2 })
		}
		for _, next := range []int{at, at + 2, at + 3} {
			second := mapper.Write(first, 0x8000, 1, 0, next)
			wantBoard(t, "no neighbour", second, first, func(b *api.Board) { b.Shift, b.Last = 0x1c, next })
		}
		if at > 0 {
			second := mapper.Write(first, 0x8000, 1, 0, at-1)
			wantBoard(t, "an earlier one", second, first, func(b *api.Board) { b.Shift, b.Last = 0x1c, at-1 })
		}
	}
	low := mapper.Write(mapper.Write(b, 0x8000, 1, 0, 4), 0x6000, 1, 0, 5)
	wantBoard(t, "a write below $8000 is none", mapper.Write(low, 0x8000, 1, 0, 6), low, func(b *api.Board) { b.Shift, b.Last = 0x1c, 6 })
	wantBoard(t, "the first write, in cycle 0", mapper.Write(b, 0x8000, 0, 0, 0), b, func(b *api.Board) { b.Shift, b.Last = 0x08, 0 })
}

func TestWriteMMC1Reset(t *testing.T) {
	for ctrl := range 32 {
		for _, addr := range []uint16{0x8000, 0xa000, 0xc000, 0xe000, 0xffff} {
			for _, v := range []uint8{0x80, 0x81, 0xff} {
				b := boardOf(t, 1, 0, 1, 2)
				b.Shift, b.Ctrl, b.ChrA, b.ChrB, b.PrgR = 0x0b, uint8(ctrl), 1, 2, 3
				wantBoard(t, "bit 7", mapper.Write(b, addr, v, 0, 3), b, func(b *api.Board) { b.Shift, b.Ctrl, b.Last = 0x10, uint8(ctrl)|0x0c, 3 })
			}
		}
	}
}

func TestWriteMMC3(t *testing.T) {
	for _, sub := range subs[4] {
		b := boardOf(t, 4, sub, 1, 2)
		b.IrqCount, b.IrqOn, b.Irq, b.IrqLatch = 9, true, true, 17
		for _, high := range []uint16{0, 0x1234, 0x1ffe} {
			w := func(addr uint16, v uint8) api.Board { return mapper.Write(b, addr|high, v, 0, 0) }
			wantBoard(t, "Sel", w(0x8000, 0xbf), b, func(b *api.Board) { b.Sel = 0x87 })
			wantBoard(t, "Turn", w(0xa000, 0xff), b, func(b *api.Board) { b.Turn = 1 })
			wantBoard(t, "Turn", w(0xa000, 0xfe), b, func(b *api.Board) { b.Turn = 0 })
			wantBoard(t, "Guard", w(0xa001, 0xbf), b, func(b *api.Board) { b.Guard = 0x80 })
			wantBoard(t, "Guard", w(0xa001, 0x7f), b, func(b *api.Board) { b.Guard, b.Epoch = 0x40, 1 })
			wantBoard(t, "IrqLatch", w(0xc000, 0xe3), b, func(b *api.Board) { b.IrqLatch = 0xe3 })
			wantBoard(t, "IrqLoad", w(0xc001, 0xe3), b, func(b *api.Board) { b.IrqCount, b.IrqLoad = 0, true })
			wantBoard(t, "off", w(0xe000, 0xff), b, func(b *api.Board) { b.IrqOn, b.Irq = false, false })
			wantBoard(t, "on", w(0xe001, 0), b, func(b *api.Board) {})
			off := w(0xe000, 0)
			wantBoard(t, "on", mapper.Write(off, 0xe001|high, 0, 0, 1), off, func(b *api.Board) { b.IrqOn = true })
			for n := range uint8(8) {
				sel := w(0x8000, n|0x80)
				v := 0xfe + n%2 // of two banks the same as ahead, so that the epoch stays
				got := mapper.Write(sel, 0x8001|high, v, 0, 0)
				wantBoard(t, "R", got, sel, func(b *api.Board) { b.R[n] = v })
			}
		}
	}
}

func TestEpoch(t *testing.T) {
	want := func(name string, b api.Board, n int) api.Board {
		t.Helper()
		if b.Epoch != n {
			t.Errorf("P2.5: %s: Epoch %d, want %d", name, b.Epoch, n)
		}
		return b
	}
	b := boardOf(t, 2, 0, 4, 0)
	b = want("another bank", written(b, store{0x8000, 1}), 1)
	b = want("the same bank", written(b, store{0x8000, 1}), 1)
	b = want("the same by the modulo", written(b, store{0x8000, 5}), 1)
	want("back", written(b, store{0x8000, 0}), 2)
	b = boardOf(t, 3, 0, 2, 4)
	want("CHR alone", written(b, store{0x8000, 3}), 0)
	b = boardOf(t, 7, 0, 4, 0)
	b = want("mirroring alone", written(b, store{0x8000, 0x10}), 0)
	want("all windows", written(b, store{0x8000, 0x11}), 1)
	b = boardOf(t, 1, 0, 16, 4)
	b = want("MMC1's CHR", serial(serial(b, 0xa000, 0x1f), 0xc000, 9), 0)
	b = want("MMC1's mirroring and CHR's size", serial(b, 0x8000, 0x1f), 0)
	b = want("bits that are not the fifth", written(b, store{0xe000, 1}, store{0xe000, 1}, store{0xe000, 1}, store{0xe000, 1}), 0)
	b = want("the fifth", written(b, store{0xe000, 0}), 1)
	b = want("work RAM shut", serial(b, 0xe000, 0x1f), 2)
	b.Work = false
	want("work RAM that isn't there", serial(b, 0xe000, 0x0f), 2)
	b = want("the upper windows alone", serial(boardOf(t, 1, 0, 16, 4), 0x8000, 0x08), 1)
	want("a reset that turns the windows", written(b, store{0xffff, 0x80}), 2)
	b = boardOf(t, 1, 0, 32, 4)
	want("MMC1's outer bank", serial(b, 0xa000, 0x10), 1)
	want("submapper 5", serial(boardOf(t, 1, 5, 16, 4), 0x8000, 0x00), 0)
	b = boardOf(t, 4, 0, 8, 4)
	want("Sel without bit 6", written(b, store{0x8000, 0x87}), 0)
	want("Sel with bit 6", written(b, store{0x8000, 0x46}), 1)
	want("CHR's registers", written(b, store{0x8000, 5}, store{0x8001, 99}), 0)
	want("PRG's registers", written(b, store{0x8000, 6}, store{0x8001, 3}, store{0x8000, 7}, store{0x8001, 3}, store{0x8001, 0x43}), 2)
	want("Guard", written(b, store{0xa001, 0xc0}, store{0xa001, 0xc0}, store{0xa001, 0}, store{0xa001, 0x40}, store{0xa001, 0x80}), 3)
	want("mirroring and the counter", written(b, store{0xa000, 1}, store{0xc000, 1}, store{0xc001, 1}, store{0xe001, 1}, store{0xe000, 1}), 0)
}

func TestEpochEnds(t *testing.T) {
	for _, kind := range []int{2, 7} {
		b := boardOf(t, kind, 0, 8, 0)
		b.Epoch = 1<<62 - 1
		for n, want := range []int{1 << 62, 1 << 62, 1 << 62} {
			b = written(b, store{0x8000, uint8(n + 1)})
			if b.Epoch != want || b.Latch != uint8(n+1) || !mapper.Valid(b) {
				t.Errorf("P2.5: at the end: %+v", b)
			}
		}
	}
}
