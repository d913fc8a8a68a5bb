package mapper_test

import (
	"math"
	"math/rand"
	"slices"
	"testing"

	"tandem/api"
	"tandem/mapper"
)

// wantValid changes a valid board and holds Valid against may.
func wantValid(t *testing.T, name string, b api.Board, may bool, change func(b *api.Board)) {
	t.Helper()
	change(&b)
	if mapper.Valid(b) != may {
		t.Errorf("P2.1: %s: Valid is %v, want %v: %+v", name, !may, may, b)
	}
	if !may {
		wantNothing(t, name, b)
	}
}

// wantNothing holds every call against what it answers for a board that isn't valid.
func wantNothing(t *testing.T, name string, b api.Board) {
	t.Helper()
	for _, addr := range []uint16{0, 0x1c00, 0x2c00, 0x7fff, 0x8000, 0xa001, 0xc001, 0xe001, 0xffff} {
		if mapper.Write(b, addr, 0x91, 0xff, 7) != b {
			t.Errorf("P2.1: %s: a write to %#x changes a board that isn't valid", name, addr)
		}
		if mapper.PrgAt(b, addr) != -1 || mapper.ChrAt(b, addr) != -1 || mapper.Page(b, addr) != 0 {
			t.Errorf("P2.1: %s: a board that isn't valid has something at %#x", name, addr)
		}
	}
	for n := -1; n <= 8; n++ {
		if mapper.Bank(b, n) != -1 || mapper.ChrBank(b, n) != -1 {
			t.Errorf("P2.1: %s: a board that isn't valid has banks", name)
		}
		if mapper.Clock(b, n) != b {
			t.Errorf("P2.1: %s: %d clocks change a board that isn't valid", name, n)
		}
	}
	if mapper.Mirror(b) != api.Horizontal || mapper.RamMode(b) != 0 || mapper.ToIrq(b) != -1 || mapper.Clock(b, math.MaxInt) != b {
		t.Errorf("P2.1: %s: a board that isn't valid answers: %d, %d, %d", name, mapper.Mirror(b), mapper.RamMode(b), mapper.ToIrq(b))
	}
}

func TestValidKinds(t *testing.T) {
	for _, kind := range kinds {
		for _, sub := range subs[kind] {
			b := boardOf(t, kind, sub, 4, 2)
			wantValid(t, "a new one", b, true, func(*api.Board) {})
			for n := -3; n <= 17; n++ {
				wantValid(t, "Sub", b, slices.Contains(subs[kind], n), func(b *api.Board) { b.Sub = n })
			}
			for _, n := range []int{-1, 5, 6, 8, 9, 256, 1 << 32, 1<<32 + kind, math.MaxInt, math.MinInt} {
				wantValid(t, "Kind", b, false, func(b *api.Board) { b.Kind = n })
			}
			wantValid(t, "Sub", b, false, func(b *api.Board) { b.Sub = math.MaxInt })
			wantValid(t, "Sub", b, false, func(b *api.Board) { b.Sub = math.MinInt })
		}
	}
	wantValid(t, "the zero value", api.Board{}, false, func(*api.Board) {})
	wantValid(t, "the least", api.Board{Prg: 2, Chr: 8}, true, func(*api.Board) {})
}

func TestValidSizes(t *testing.T) {
	for _, kind := range kinds {
		for _, sub := range subs[kind] {
			b := boardOf(t, kind, sub, 4, 2)
			for m := range 256 {
				may := m == 0 || m == 1 || m == 4
				wantValid(t, "Hard", b, may, func(b *api.Board) { b.Hard = api.Mirror(m) })
			}
			for n := -4; n <= 140; n++ {
				may := n >= 2 && n <= 128 && n%2 == 0
				wantValid(t, "Prg", b, may, func(b *api.Board) { b.Prg = n })
			}
			for n := -16; n <= 540; n++ {
				may := n >= 8 && n <= 512 && n%8 == 0
				wantValid(t, "Chr", b, may, func(b *api.Board) { b.Chr = n })
				wantValid(t, "ChrRam", b, n == 8, func(b *api.Board) { b.Chr = n; b.ChrRam = true })
			}
			for _, n := range []int{math.MinInt, -1 << 32, 1<<32 + 8, 1<<62 + 8, math.MaxInt - 7} {
				wantValid(t, "Prg", b, false, func(b *api.Board) { b.Prg = n })
				wantValid(t, "Chr", b, false, func(b *api.Board) { b.Chr = n })
			}
			wantValid(t, "Work", b, true, func(b *api.Board) { b.Work = !b.Work })
			for _, n := range []int{0, 1, 77, 1<<62 - 1, 1 << 62} {
				wantValid(t, "Epoch", b, true, func(b *api.Board) { b.Epoch = n })
			}
			for _, n := range []int{-1, math.MinInt, 1<<62 + 1, math.MaxInt} {
				wantValid(t, "Epoch", b, false, func(b *api.Board) { b.Epoch = n })
			}
		}
	}
}

func TestValidUnusedFields(t *testing.T) {
	for _, kind := range kinds {
		for _, sub := range subs[kind] {
			b := boardOf(t, kind, sub, 4, 2)
			for _, f := range fields {
				wantValid(t, f.name, b, slices.Contains(f.kinds, kind), f.set)
			}
		}
	}
}

func TestValidMMC1(t *testing.T) {
	for _, sub := range subs[1] {
		b := boardOf(t, 1, sub, 4, 2)
		for n := range 256 {
			wantValid(t, "Shift", b, n >= 1 && n <= 31, func(b *api.Board) { b.Shift = uint8(n) })
			wantValid(t, "Ctrl", b, n <= 31, func(b *api.Board) { b.Ctrl = uint8(n) })
			wantValid(t, "ChrA", b, n <= 31, func(b *api.Board) { b.ChrA = uint8(n) })
			wantValid(t, "ChrB", b, n <= 31, func(b *api.Board) { b.ChrB = uint8(n) })
			wantValid(t, "PrgR", b, n <= 31, func(b *api.Board) { b.PrgR = uint8(n) })
		}
		for _, n := range []int{-2, 0, 1, 2, api.MaxCycle, math.MaxInt} {
			wantValid(t, "Last", b, true, func(b *api.Board) { b.Last = n })
		}
		for _, n := range []int{-1, -3, -4, math.MinInt} {
			wantValid(t, "Last", b, false, func(b *api.Board) { b.Last = n })
		}
	}
}

func TestValidLatch(t *testing.T) {
	for _, kind := range []int{2, 3, 7} {
		for n := range 256 {
			wantValid(t, "Latch", boardOf(t, kind, 0, 4, 2), true, func(b *api.Board) { b.Latch = uint8(n) })
		}
	}
}

func TestValidMMC3(t *testing.T) {
	for _, sub := range subs[4] {
		b := boardOf(t, 4, sub, 4, 2)
		for n := range 256 {
			v := uint8(n)
			wantValid(t, "Sel", b, v&0x38 == 0, func(b *api.Board) { b.Sel = v })
			wantValid(t, "Turn", b, v <= 1, func(b *api.Board) { b.Turn = v })
			wantValid(t, "Guard", b, v&0x3f == 0, func(b *api.Board) { b.Guard = v })
			wantValid(t, "IrqLatch", b, true, func(b *api.Board) { b.IrqLatch = v })
			wantValid(t, "IrqCount", b, true, func(b *api.Board) { b.IrqCount = v })
			wantValid(t, "IrqCount and IrqLoad", b, v == 0, func(b *api.Board) { b.IrqCount = v; b.IrqLoad = true })
			wantValid(t, "R", b, true, func(b *api.Board) { b.R = [8]uint8{v, v, v, v, v, v, v, v} })
		}
		wantValid(t, "IrqOn", b, true, func(b *api.Board) { b.IrqOn = true })
		wantValid(t, "IrqOn and Irq", b, true, func(b *api.Board) { b.IrqOn, b.Irq = true, true })
		wantValid(t, "Irq alone", b, false, func(b *api.Board) { b.Irq = true })
	}
}

// TestValidStays: what a call makes of a valid board is valid, and no board makes a call panic.
func TestValidStays(t *testing.T) {
	r := rand.New(rand.NewSource(21))
	numbers := []int{0, 1, 2, 3, 4, 5, 7, 8, 16, 64, 512, -1, -2, 1 << 62, math.MinInt, math.MaxInt}
	anyOf := func() int { return numbers[r.Intn(len(numbers))] }
	for range 20000 {
		b := anyBoard(r, kinds[r.Intn(len(kinds))])
		if r.Intn(2) == 0 {
			b.Kind, b.Sub, b.Prg, b.Chr, b.Last, b.Epoch = anyOf(), anyOf(), anyOf(), anyOf(), anyOf(), anyOf()
			b.Hard = api.Mirror(r.Intn(256))
		}
		valid := mapper.Valid(b)
		c := mapper.Clock(mapper.Write(b, uint16(r.Intn(0x10000)), uint8(r.Intn(256)), uint8(r.Intn(256)), anyOf()), anyOf())
		if mapper.Valid(c) != valid {
			t.Fatalf("P2.1: %+v: valid %v, and then %v: %+v", b, valid, !valid, c)
		}
		if !valid && c != b {
			t.Fatalf("P2.1: a board that isn't valid was changed: %+v", b)
		}
		mapper.Bank(b, anyOf())
		mapper.ChrBank(b, anyOf())
	}
}
