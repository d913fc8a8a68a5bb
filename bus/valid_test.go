package bus_test

import (
	"math/rand"
	"testing"

	"tandem/api"
	"tandem/bus"
	"tandem/mapper"
)

const (
	least    = -1 << 63
	greatest = 1<<63 - 1
)

// wrongMems is ways in which a memory is not valid with a cartridge, each of them the only one.
func wrongMems() []struct {
	name string
	cart api.Cart
	turn func(m *api.Mem)
} {
	rom := filled(api.Cart{PrgRam: 8192}, 2, 1)
	one := filled(api.Cart{Mapper: api.MMC1}, 2, 0)
	return []struct {
		name string
		cart api.Cart
		turn func(m *api.Mem)
	}{
		{"a board's Latch that the kind has not", nrom(), func(m *api.Mem) { m.Board.Latch = 1 }},
		{"Epoch -1", nrom(), func(m *api.Mem) { m.Board.Epoch = -1 }},
		{"MMC1's Shift 0", one, func(m *api.Mem) { m.Board.Shift = 0 }},
		{"MMC3's Turn 2", mmc3(), func(m *api.Mem) { m.Board.Turn = 2 }},
		{"the zero Board", nrom(), func(m *api.Mem) { m.Board = api.Board{} }},
		{"another Kind", nrom(), func(m *api.Mem) { m.Board.Kind = api.UxROM }},
		{"another Sub", filled(api.Cart{Mapper: api.AxROM}, 2, 0), func(m *api.Mem) { m.Board.Sub = 1 }},
		{"another Hard", nrom(), func(m *api.Mem) { m.Board.Hard = api.Vertical }},
		{"FourPages", nrom(), func(m *api.Mem) { m.Board.Hard = api.FourPages }},
		{"less Prg", nrom(), func(m *api.Mem) { m.Board.Prg = 2 }},
		{"more Prg", nrom(), func(m *api.Mem) { m.Board.Prg = 6 }},
		{"more Chr", rom, func(m *api.Mem) { m.Board.Chr = 16 }},
		{"ChrRam", rom, func(m *api.Mem) { m.Board.ChrRam = true }},
		{"no ChrRam", nrom(), func(m *api.Mem) { m.Board.ChrRam = false }},
		{"no Work", nrom(), func(m *api.Mem) { m.Board.Work = false }},
		{"Work", one, func(m *api.Mem) { m.Board.Work = true }},
		{"Cycle -1", nrom(), func(m *api.Mem) { m.Cycle = -1 }},
		{"the least Cycle", nrom(), func(m *api.Mem) { m.Cycle = least }},
		{"Cycle EndCycle + 1", nrom(), func(m *api.Mem) { m.Cycle = api.EndCycle + 1 }},
		{"the greatest Cycle", nrom(), func(m *api.Mem) { m.Cycle = greatest }},
		{"Last 0 in cycle 0", one, func(m *api.Mem) { m.Board.Last = 0 }},
		{"Last is Cycle", one, func(m *api.Mem) { m.Board.Last, m.Cycle = 9, 9 }},
		{"Last above Cycle", one, func(m *api.Mem) { m.Board.Last, m.Cycle = 10, 9 }},
		{"the greatest Last", one, func(m *api.Mem) { m.Board.Last, m.Cycle = greatest, api.EndCycle }},
		{"Ctl 32", nrom(), func(m *api.Mem) { m.Clock.Ctl = 32 }},
		{"At 37282", nrom(), func(m *api.Mem) { m.Clock.At = 37282 }},
		{"Over without Flag", nrom(), func(m *api.Mem) { m.Clock.Over = true }},
		{"Line 262", nrom(), func(m *api.Mem) { m.Raster.Line = 262 }},
		{"Dot 341", nrom(), func(m *api.Mem) { m.Raster.Dot = 341 }},
		{"Vbl on the screen", nrom(), func(m *api.Mem) { m.Raster.Vbl = true }},
		{"V $8000", nrom(), func(m *api.Mem) { m.Video.V = 0x8000 }},
		{"X 8", nrom(), func(m *api.Mem) { m.Video.X = 8 }},
		{"Pal 64", nrom(), func(m *api.Mem) { m.Video.Pal[1] = 64 }},
		{"CHR-RAM where there is none", rom, func(m *api.Mem) { m.Video.Chr[8191] = 1 }},
		{"a high Line", nrom(), func(m *api.Mem) { m.Line = true }},
		{"a high Line with Vbl alone", nrom(), func(m *api.Mem) { m.Line, m.Raster = true, api.Raster{Line: 250, Vbl: true} }},
		{"a high Line with Nmi alone", nrom(), func(m *api.Mem) { m.Line, m.Raster = true, api.Raster{Line: 250, Nmi: true} }},
		{"a low Line", nrom(), func(m *api.Mem) { m.Raster = api.Raster{Line: 250, Vbl: true, Nmi: true} }},
		{"Page without DMA", nrom(), func(m *api.Mem) { m.Dma.Page = 1 }},
		{"Step without DMA", nrom(), func(m *api.Mem) { m.Dma.Step = 2 }},
		{"Val without DMA", nrom(), func(m *api.Mem) { m.Dma.Val = 1 }},
		{"Step 3 and Val without DMA", nrom(), func(m *api.Mem) { m.Dma.Step, m.Dma.Val = 3, 1 }},
		{"Step -1", nrom(), func(m *api.Mem) { m.Dma = api.Dma{On: true, Step: -1} }},
		{"the least Step", nrom(), func(m *api.Mem) { m.Dma = api.Dma{On: true, Step: least} }},
		{"Step 514", nrom(), func(m *api.Mem) { m.Dma = api.Dma{On: true, Step: 514} }},
		{"Step 515", nrom(), func(m *api.Mem) { m.Dma = api.Dma{On: true, Step: 515} }},
		{"the greatest Step", nrom(), func(m *api.Mem) { m.Dma = api.Dma{On: true, Step: greatest} }},
		{"Val at Step 0", nrom(), func(m *api.Mem) { m.Dma = api.Dma{On: true, Val: 1} }},
		{"Val at Step 1", nrom(), func(m *api.Mem) { m.Dma = api.Dma{On: true, Step: 1, Val: 1} }},
		{"Val at Step 2", nrom(), func(m *api.Mem) { m.Dma = api.Dma{On: true, Step: 2, Val: 128} }},
		{"Val at Step 512", nrom(), func(m *api.Mem) { m.Dma = api.Dma{On: true, Step: 512, Val: 255} }},
	}
}

func TestWrongMems(t *testing.T) {
	for _, w := range wrongMems() {
		m := fresh(t, w.cart).Mem()
		if !bus.Valid(w.cart, m) {
			t.Errorf("P10.2: a new memory isn't valid (%s)", w.name)
		}
		w.turn(&m)
		if bus.Valid(w.cart, m) {
			t.Errorf("P10.2: %s is told to be valid", w.name)
		}
		if b, e := bus.From(w.cart, m); b != nil || e != api.ErrState {
			t.Errorf("P10.3: From of %s: %v, %d", w.name, b != nil, e)
		}
	}
}

func TestGoodMems(t *testing.T) {
	one := filled(api.Cart{Mapper: api.MMC1}, 2, 0)
	for _, g := range []struct {
		name string
		cart api.Cart
		turn func(m *api.Mem)
	}{
		{"EndCycle", nrom(), func(m *api.Mem) { m.Cycle = api.EndCycle }},
		{"Last -2 in cycle 0", one, func(m *api.Mem) {}},
		{"Last 0 in cycle 1", one, func(m *api.Mem) { m.Board.Last, m.Cycle = 0, 1 }},
		{"Last below EndCycle", one, func(m *api.Mem) { m.Board.Last, m.Cycle = api.EndCycle-1, api.EndCycle }},
		{"the latch, all bits open", nrom(), func(m *api.Mem) { m.Nmi, m.Open = true, 255 }},
		{"the latch, the line low again", nrom(), func(m *api.Mem) { m.Nmi, m.Raster = true, api.Raster{Line: 250, Nmi: true} }},
		{"a high line", nrom(), func(m *api.Mem) { m.Line, m.Raster = true, api.Raster{Line: 250, Vbl: true, Nmi: true} }},
		{"any pads", nrom(), func(m *api.Mem) { m.Pads = api.Pads{Strobe: true, Held: [2]uint8{1, 2}, Shift: [2]uint8{3, 4}} }},
		{"DMA, Step 0", nrom(), func(m *api.Mem) { m.Dma = api.Dma{On: true, Page: 255} }},
		{"DMA, Step 1", nrom(), func(m *api.Mem) { m.Dma = api.Dma{On: true, Step: 1} }},
		{"DMA, Step 2", nrom(), func(m *api.Mem) { m.Dma = api.Dma{On: true, Step: 2} }},
		{"DMA, Step 3", nrom(), func(m *api.Mem) { m.Dma = api.Dma{On: true, Step: 3, Val: 255} }},
		{"DMA, Step 3, nothing read", nrom(), func(m *api.Mem) { m.Dma = api.Dma{On: true, Step: 3} }},
		{"DMA, Step 512 in an odd cycle", nrom(), func(m *api.Mem) { m.Dma, m.Cycle = api.Dma{On: true, Step: 512}, 7 }},
		{"DMA, Step 513", nrom(), func(m *api.Mem) { m.Dma = api.Dma{On: true, Page: 4, Step: 513, Val: 9} }},
		{"work RAM that no board lets", filled(api.Cart{}, 1, 0), func(m *api.Mem) { m.Work[5] = 5 }},
		{"registers that were written", mmc3(), func(m *api.Mem) { m.Board = mapper.Write(m.Board, 0x8001, 3, 0, 0) }},
	} {
		m := fresh(t, g.cart).Mem()
		g.turn(&m)
		if !bus.Valid(g.cart, m) {
			t.Errorf("P10.2: %s is told not to be valid", g.name)
		}
		same(t, "P10.3: "+g.name, from(t, g.cart, m).Mem(), m)
	}
}

// A memory that is valid with one cartridge is valid with every other of the same board and sizes, and with no other.
func TestOtherCarts(t *testing.T) {
	r := rand.New(rand.NewSource(1002))
	all := carts()
	for i, c := range all {
		m := anyMem(r, c)
		for k, d := range all {
			if bus.Valid(d, m) != (i == k) {
				t.Errorf("P10.2: the memory of cartridge %d with number %d", i, k)
			}
		}
		d := c
		d.Prg = make([]byte, len(c.Prg))
		if !bus.Valid(d, m) {
			t.Errorf("P10.2: the memory of cartridge %d with other bytes of PRG", i)
		}
	}
}
