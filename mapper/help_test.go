package mapper_test

import (
	"math/rand"
	"testing"

	"tandem/api"
	"tandem/mapper"
)

// subs is which submappers each kind has.
var subs = map[int][]int{
	api.NROM:  {0},
	api.MMC1:  {0, 5},
	api.UxROM: {0, 1, 2},
	api.CNROM: {0, 1, 2},
	api.MMC3:  {0, 4},
	api.AxROM: {0, 1, 2},
}

var kinds = []int{api.NROM, api.MMC1, api.UxROM, api.CNROM, api.MMC3, api.AxROM}

// cartOf is a cartridge of so many units.
func cartOf(kind, sub, prg, chr int) api.Cart {
	return api.Cart{Mapper: kind, Sub: sub, PrgRam: 8192, Prg: make([]byte, prg*api.PrgUnit), Chr: make([]byte, chr*api.ChrUnit)}
}

// boardOf is the new board of such a cartridge.
func boardOf(t *testing.T, kind, sub, prg, chr int) api.Board {
	t.Helper()
	b, e := mapper.New(cartOf(kind, sub, prg, chr))
	if e != api.OK {
		t.Fatalf("P2.2: New(mapper %d, sub %d, %d, %d): %d", kind, sub, prg, chr, e)
	}
	return b
}

// store is one write; each lies far behind the last, so that none is lost.
type store struct {
	addr uint16
	v    uint8
}

func written(b api.Board, stores ...store) api.Board {
	at := max(b.Last, 0) + 10
	for _, s := range stores {
		b = mapper.Write(b, s.addr, s.v, 0xff, at)
		at += 2
	}
	return b
}

// serial sends five bits to one of MMC1's registers, the lowest first.
func serial(b api.Board, addr uint16, n uint8) api.Board {
	for i := range 5 {
		b = written(b, store{addr, n >> i & 1})
	}
	return b
}

// fields are a board's fields that some kinds don't use, each with a way to make it other than 0.
var fields = []struct {
	name  string
	kinds []int
	set   func(b *api.Board)
}{
	{"Shift", []int{1}, func(b *api.Board) { b.Shift = 0x10 }},
	{"Ctrl", []int{1}, func(b *api.Board) { b.Ctrl = 1 }},
	{"ChrA", []int{1}, func(b *api.Board) { b.ChrA = 1 }},
	{"ChrB", []int{1}, func(b *api.Board) { b.ChrB = 1 }},
	{"PrgR", []int{1}, func(b *api.Board) { b.PrgR = 1 }},
	{"Last, above 0", []int{1}, func(b *api.Board) { b.Last = 1 }},
	{"Last, -2", []int{1}, func(b *api.Board) { b.Last = -2 }},
	{"Latch", []int{2, 3, 7}, func(b *api.Board) { b.Latch = 0x80 }},
	{"Sel", []int{4}, func(b *api.Board) { b.Sel = 1 }},
	{"R[0]", []int{4}, func(b *api.Board) { b.R[0] = 1 }},
	{"R[1]", []int{4}, func(b *api.Board) { b.R[1] = 1 }},
	{"R[2]", []int{4}, func(b *api.Board) { b.R[2] = 1 }},
	{"R[3]", []int{4}, func(b *api.Board) { b.R[3] = 1 }},
	{"R[4]", []int{4}, func(b *api.Board) { b.R[4] = 1 }},
	{"R[5]", []int{4}, func(b *api.Board) { b.R[5] = 1 }},
	{"R[6]", []int{4}, func(b *api.Board) { b.R[6] = 1 }},
	{"R[7]", []int{4}, func(b *api.Board) { b.R[7] = 1 }},
	{"Turn", []int{4}, func(b *api.Board) { b.Turn = 1 }},
	{"Guard", []int{4}, func(b *api.Board) { b.Guard = 0x40 }},
	{"IrqLatch", []int{4}, func(b *api.Board) { b.IrqLatch = 1 }},
	{"IrqCount", []int{4}, func(b *api.Board) { b.IrqCount = 1 }},
	{"IrqLoad", []int{4}, func(b *api.Board) { b.IrqLoad = true }},
	{"IrqOn", []int{4}, func(b *api.Board) { b.IrqOn = true }},
	{"Irq", []int{4}, func(b *api.Board) { b.Irq = true; b.IrqOn = true }},
}

// anyBoard is a valid board of that kind with registers as they may come.
func anyBoard(r *rand.Rand, kind int) api.Board {
	b := api.Board{Kind: kind, Sub: subs[kind][r.Intn(len(subs[kind]))], Work: r.Intn(3) > 0, Epoch: r.Intn(5)}
	b.Hard = []api.Mirror{api.Horizontal, api.Vertical, api.FourPages}[r.Intn(3)]
	b.Prg = 2 * (1 + r.Intn(64))
	if r.Intn(2) == 0 {
		b.Prg = 2 << r.Intn(7)
	}
	b.Chr = 8 * (1 + r.Intn(64))
	if b.Chr == 8 {
		b.ChrRam = r.Intn(2) == 0
	}
	if r.Intn(8) == 0 {
		b.Epoch = api.Never - r.Intn(3)
	}
	switch kind {
	case api.MMC1:
		b.Shift = uint8(1 + r.Intn(31))
		b.Ctrl, b.ChrA, b.ChrB, b.PrgR = uint8(r.Intn(32)), uint8(r.Intn(32)), uint8(r.Intn(32)), uint8(r.Intn(32))
		b.Last = []int{-2, 0, 1, r.Intn(100), api.EndCycle}[r.Intn(5)]
	case api.UxROM, api.CNROM, api.AxROM:
		b.Latch = uint8(r.Intn(256))
	case api.MMC3:
		b.Sel, b.Turn, b.Guard = uint8(r.Intn(256))&0xc7, uint8(r.Intn(2)), uint8(r.Intn(4)<<6)
		for i := range b.R {
			b.R[i] = uint8(r.Intn(256))
		}
		b.IrqLatch, b.IrqCount = anyCount(r), anyCount(r)
		b.IrqLoad, b.IrqOn = r.Intn(3) == 0, r.Intn(3) > 0
		b.Irq = b.IrqOn && r.Intn(4) == 0
		if b.IrqLoad {
			b.IrqCount = 0
		}
	}
	return b
}

// anyCount is a count, the small ones more often.
func anyCount(r *rand.Rand) uint8 {
	return uint8(r.Intn([]int{1, 2, 5, 256}[r.Intn(4)]))
}

// seen is all that a board shows.
type seen struct {
	banks  [4]int
	chr    [8]int
	mirror api.Mirror
	ram    int
}

func look(b api.Board) seen {
	s := seen{mirror: mapper.Mirror(b), ram: mapper.RamMode(b)}
	for w := range s.banks {
		s.banks[w] = mapper.Bank(b, w)
	}
	for n := range s.chr {
		s.chr[n] = mapper.ChrBank(b, n)
	}
	return s
}

// wantBanks holds the four windows against what they should show.
func wantBanks(t *testing.T, name string, b api.Board, want ...int) {
	t.Helper()
	for w, n := range want {
		if got := mapper.Bank(b, w); got != n {
			t.Errorf("P2.3: %s: Bank(%d) = %d, want %d", name, w, got, n)
		}
	}
}

// wantChr holds the eight slots against what they should show.
func wantChr(t *testing.T, name string, b api.Board, want ...int) {
	t.Helper()
	for s, n := range want {
		if got := mapper.ChrBank(b, s); got != n {
			t.Errorf("P2.3: %s: ChrBank(%d) = %d, want %d", name, s, got, n)
		}
	}
}
