package mapper_test

import (
	"math/rand"
	"testing"

	"tandem/api"
	"tandem/mapper"
)

// The chapter's words a second time, on the plain value, for valid boards.

func bit(v uint8, n int) bool { return v>>n&1 == 1 }

func toldBank(b api.Board, w int) int {
	p := b.Prg
	lower := w < 2
	n := w
	switch b.Kind {
	case 1:
		o, l, q := 0, p-2, int(b.PrgR%16)
		if p > 32 {
			l = 30
			if bit(b.ChrA, 4) {
				o = 32
			}
		}
		switch {
		case b.Sub == 5:
		case !bit(b.Ctrl, 3):
			n = o + 2*(q-q%2) + w
		case !bit(b.Ctrl, 2) && lower:
			n = o + w
		case !bit(b.Ctrl, 2):
			n = o + 2*q + w - 2
		case lower:
			n = o + 2*q + w
		default:
			n = o + l + w - 2
		}
	case 2:
		n = p - 2 + w - 2
		if lower {
			n = 2*int(b.Latch) + w
		}
	case 4:
		row := []int{int(b.R[6]) % 64, int(b.R[7]) % 64, p - 2, p - 1}
		if bit(b.Sel, 6) {
			row[0], row[2] = row[2], row[0]
		}
		n = row[w]
	case 7:
		n = 4*(int(b.Latch)%16) + w
	}
	return n % p
}

func toldChrBank(b api.Board, s int) int {
	n := s
	switch b.Kind {
	case 3:
		n = 8*int(b.Latch) + s
	case 1:
		switch {
		case !bit(b.Ctrl, 4):
			n = 4*int(b.ChrA-b.ChrA%2) + s
		case s <= 3:
			n = 4*int(b.ChrA) + s
		default:
			n = 4*int(b.ChrB) + s - 4
		}
	case 4:
		r := func(i int) int { return int(b.R[i]) }
		row := []int{r(0) / 2 * 2, r(0)/2*2 + 1, r(1) / 2 * 2, r(1)/2*2 + 1, r(2), r(3), r(4), r(5)}
		if bit(b.Sel, 7) {
			row = append(row[4:], row[:4]...)
		}
		n = row[s]
	}
	return n % b.Chr
}

func toldMirror(b api.Board) api.Mirror {
	if b.Hard == api.FourPages {
		return api.FourPages
	}
	switch b.Kind {
	case 1:
		return []api.Mirror{api.OneLow, api.OneHigh, api.Vertical, api.Horizontal}[b.Ctrl%4]
	case 4:
		return []api.Mirror{api.Vertical, api.Horizontal}[b.Turn]
	case 7:
		return []api.Mirror{api.OneLow, api.OneHigh}[b.Latch>>4&1]
	}
	return b.Hard
}

func toldRam(b api.Board) int {
	switch {
	case !b.Work, b.Kind == 1 && bit(b.PrgR, 4), b.Kind == 4 && !bit(b.Guard, 7):
		return 0
	case b.Kind == 4 && bit(b.Guard, 6):
		return 1
	}
	return 2
}

func toldPage(b api.Board, addr uint16) int {
	k := int(addr) / 1024 % 4
	return [][]int{{0, 0, 1, 1}, {0, 1, 0, 1}, {0, 0, 0, 0}, {1, 1, 1, 1}, {0, 1, 2, 3}}[toldMirror(b)][k]
}

func toldLook(b api.Board) seen {
	s := seen{mirror: toldMirror(b), ram: toldRam(b)}
	for w := range s.banks {
		s.banks[w] = toldBank(b, w)
	}
	for n := range s.chr {
		s.chr[n] = toldChrBank(b, n)
	}
	return s
}

func toldWrite(b api.Board, addr uint16, v, under uint8, cycle int) api.Board {
	if addr < 0x8000 || cycle < 0 {
		return b
	}
	ahead := toldLook(b)
	switch b.Kind {
	case 2, 3, 7:
		b.Latch = v
		if b.Sub == 2 {
			b.Latch = v & under
		}
	case 1:
		b = toldSerial(b, addr, v, cycle)
	case 4:
		b = toldMMC3(b, addr, v)
	}
	behind := toldLook(b)
	if (ahead.banks != behind.banks || ahead.ram != behind.ram) && b.Epoch < 1<<62 {
		b.Epoch++
	}
	return b
}

func toldSerial(b api.Board, addr uint16, v uint8, cycle int) api.Board {
	last := b.Last
	b.Last = cycle
	if cycle-1 == last {
		return b
	}
	if bit(v, 7) {
		b.Shift = 0x10
		b.Ctrl |= 0x0c
		return b
	}
	t := b.Shift/2 + v%2*16
	if !bit(b.Shift, 0) {
		b.Shift = t
		return b
	}
	b.Shift = 0x10
	switch {
	case addr < 0xa000:
		b.Ctrl = t
	case addr < 0xc000:
		b.ChrA = t
	case addr < 0xe000:
		b.ChrB = t
	default:
		b.PrgR = t
	}
	return b
}

func toldMMC3(b api.Board, addr uint16, v uint8) api.Board {
	odd := addr%2 == 1
	switch {
	case addr < 0xa000 && !odd:
		b.Sel = v & 0xc7
	case addr < 0xa000:
		b.R[b.Sel%8] = v
	case addr < 0xc000 && !odd:
		b.Turn = v % 2
	case addr < 0xc000:
		b.Guard = v & 0xc0
	case addr < 0xe000 && !odd:
		b.IrqLatch = v
	case addr < 0xe000:
		b.IrqCount, b.IrqLoad = 0, true
	case !odd:
		b.IrqOn, b.Irq = false, false
	default:
		b.IrqOn = true
	}
	return b
}

// toldClock is one scanline clock.
func toldClock(b api.Board) api.Board {
	if b.Kind != 4 {
		return b
	}
	count, load := b.IrqCount, b.IrqLoad
	if count == 0 || load {
		b.IrqCount = b.IrqLatch
	} else {
		b.IrqCount--
	}
	if b.IrqCount == 0 && b.IrqOn && (b.Sub != 4 || count != 0 || load) {
		b.Irq = true
	}
	b.IrqLoad = false
	return b
}

// TestTold holds every call against the chapter's words, on boards of all kinds and along many writes.
func TestTold(t *testing.T) {
	r := rand.New(rand.NewSource(2))
	for i := range 6000 {
		b := anyBoard(r, kinds[i%len(kinds)])
		cycle := r.Intn(100)
		if b.Last == api.EndCycle {
			cycle = api.EndCycle + r.Intn(3)
		}
		for range 12 {
			if !mapper.Valid(b) {
				t.Fatalf("P2.1: not valid: %+v", b)
			}
			if got, want := look(b), toldLook(b); got != want {
				t.Fatalf("P2.3: %+v: %+v, want %+v", b, got, want)
			}
			addr := uint16(r.Intn(0x10000))
			if got, want := mapper.Page(b, addr), toldPage(b, addr); got != want {
				t.Fatalf("P2.3: %+v: Page(%#x) = %d, want %d", b, addr, got, want)
			}
			n := r.Intn(4)
			c := b
			for range n {
				c = toldClock(c)
			}
			if got := mapper.Clock(b, n); got != c {
				t.Fatalf("P2.6: %+v: %d clocks: %+v, want %+v", b, n, got, c)
			}
			v, under := uint8(r.Intn(256)), uint8(r.Intn(256))
			if b.Kind == 1 && r.Intn(8) > 0 {
				v &= 0x7f
			}
			d := toldWrite(c, addr|0x8000, v, under, cycle)
			if got := mapper.Write(c, addr|0x8000, v, under, cycle); got != d {
				t.Fatalf("P2.4: %+v: %d to %#x (%d) in %d: %+v, want %+v", c, v, addr|0x8000, under, cycle, got, d)
			}
			b = d
			cycle += 1 + r.Intn(3)
		}
	}
}
