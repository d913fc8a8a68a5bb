package dbt_test

import (
	"testing"

	"tandem/api"
)

// ramKey is a key in RAM.
func ramKey(pc uint16) api.Key { return key(pc, api.TagRam) }

// A store that falls into the running block ends it behind the storing instruction, wherever it falls.
func TestStoreIntoRunning(t *testing.T) {
	c := console()
	// $0200: LDA #$EA, STA $02xx, LDX #1, INX, JMP $0200: eleven bytes
	for to := 0x1f8; to < 0x214; to++ {
		code := []uint8{0xa9, 0xea, 0x8d, uint8(to), uint8(to >> 8), 0xa2, 0x01, 0xe8, 0x4c, 0x00, 0x02}
		g := beside(t, c, standing(t, c, inRam(0x0200, code...)), 256, 8)
		inside := to >= 0x200 && to < 0x20b
		n := g.pass("P15.2: a store", 100)
		l := g.all
		if want := map[bool]int{true: 6, false: 13}[inside]; n != want {
			t.Errorf("P15.2: a store to $%04X: %d cycles, want %d", to, n, want)
		}
		if inside && (l[0].Insts != 2 || l[0].Left != api.LeftStore) || !inside && (l[0].Insts != 5 || l[0].Left != api.LeftEnd) {
			t.Errorf("P15.8: a store to $%04X: %+v", to, l)
		}
		if inside {
			keys(t, "P15.2: a store into the running block", g.m)
			stats(t, "P15.2: a store into the running block", g.m, api.Stats{Blocks: 1, Misses: 1, Dropped: 1, Stores: 1})
		} else {
			keys(t, "P15.2: a store beside the running block", g.m, ramKey(0x0200))
		}
		for range 6 {
			g.pass("P15.8: behind a store", 100)
		}
	}
}

// The store may make a byte what it was, lie behind or ahead of the storing instruction, or be the last instruction's.
func TestStoreOfTheSame(t *testing.T) {
	c := console()
	for name, x := range map[string]struct {
		code  []uint8
		insts int
	}{
		"the same byte":               {[]uint8{0xa9, 0xe8, 0x8d, 0x05, 0x02, 0xe8, 0x60}, 2},
		"ahead of it":                 {[]uint8{0xa9, 0xe8, 0x8d, 0x00, 0x02, 0xe8, 0x60}, 2},
		"the last instruction":        {[]uint8{0xa9, 0xe8, 0x8d, 0x01, 0x02, 0x58}, 2},
		"a mirror":                    {[]uint8{0xa9, 0xe8, 0x8d, 0x05, 0x0a, 0xe8, 0x60}, 2},
		"another mirror":              {[]uint8{0xa9, 0xe8, 0x8d, 0x05, 0x1a, 0xe8, 0x60}, 2},
		"read, changed and written":   {[]uint8{0xa9, 0xe8, 0xce, 0x05, 0x02, 0xe9, 0x60}, 2},
		"an undocumented one":         {[]uint8{0xa2, 0x00, 0xa9, 0x00, 0x8f, 0x08, 0x02, 0xe8, 0xe8, 0x60}, 3},
		"through a pointer":           {[]uint8{0xa0, 0x03, 0xa9, 0xe8, 0x91, 0x40, 0xe8, 0x60}, 3},
		"its own operand":             {[]uint8{0xa9, 0x10, 0x8d, 0x03, 0x02, 0xe8, 0x60}, 2},
		"the stack, where none of it": {[]uint8{0xa9, 0x10, 0x48, 0xe8, 0x60}, 4},
	} {
		g := beside(t, c, standing(t, c, func(s *api.State) {
			inRam(0x0200, x.code...)(s)
			s.Mem.Ram[0x40], s.Mem.Ram[0x41] = 0x03, 0x02
			s.Mem.Ram[0x1fe], s.Mem.Ram[0x1ff] = 0x00, 0x80
		}), 256, 8)
		g.pass("P15.8: "+name, 100)
		want := api.LeftStore
		if x.insts == 4 {
			want = api.LeftEnd
		}
		if e := g.all[0]; e.Insts != x.insts || e.Left != want {
			t.Errorf("P15.8: %s: %+v", name, e)
		}
		for range 6 {
			g.pass("P15.8: "+name, 100)
		}
	}
}

// Code in the stack's page: pushes fall on the running block, those of a JSR too.
func TestStackCode(t *testing.T) {
	c := console()
	for s := range 256 {
		for _, code := range [][]uint8{
			{0x48, 0x08, 0xe8, 0x48, 0xca, 0x4c, 0x40, 0x01}, // PHA, PHP, INX, PHA, DEX, JMP $0140
			{0xe8, 0x20, 0x40, 0x01, 0xea, 0xea, 0xea, 0xea}, // INX, JSR $0140
			{0x68, 0x48, 0x68, 0x48, 0xe8, 0x60, 0xea, 0xea}, // PLA, PHA, PLA, PHA, INX, RTS
		} {
			g := beside(t, c, standing(t, c, func(x *api.State) {
				inRam(0x0140, code...)(x)
				x.Cpu.Regs.S, x.Cpu.Regs.A = uint8(s), 0xea
			}), 64, 8)
			for range 8 {
				g.pass("P15.8: code in the stack", 100)
			}
			g.holds("P15.8: code in the stack")
		}
	}
}

// A block's pushes throw blocks away that lie in the stack's page.
func TestPushesDrop(t *testing.T) {
	c := console(0x20, 0x10, 0x80) // JSR $8010
	s := standing(t, c, func(s *api.State) {
		for i := 0x180; i < 0x200; i++ {
			s.Mem.Ram[i] = 0xe8
		}
	})
	g := beside(t, c, s, 4096, 8)
	g.warm("P15.2: pushes", []uint16{0x01f0, 0x01f4, 0x01f5, 0x01f6, 0x01fc, 0x01fd, 0x01fe, 0x09f6}, 2)
	g.pass("P15.2: pushes", 100) // to $01FD and $01FC, which neither the first two blocks have, of eight bytes, nor the one behind
	keys(t, "P15.2: pushes", g.m, ramKey(0x01f0), ramKey(0x01f4), ramKey(0x01fe), key(0x8000, 0))
	stats(t, "P15.2: pushes", g.m, api.Stats{Blocks: 1, Misses: 1, Dropped: 5})
}

// A store throws away every block that has the byte, under whichever of its addresses; the running one goes on.
func TestStoreOverOthers(t *testing.T) {
	c := console(0xa9, 0x01, 0x8d, 0x04, 0x0b, 0xee, 0x20, 0x03, 0x60) // LDA #1, STA $0B04, INC $0320, RTS
	s := standing(t, c, func(s *api.State) {
		for i := 0x2f0; i < 0x340; i++ {
			s.Mem.Ram[i] = 0xe8
		}
	})
	g := beside(t, c, s, 65536, 4)
	pcs := []uint16{0x0300, 0x0301, 0x0304, 0x0305, 0x0b01, 0x1303, 0x1b04, 0x1b05, 0x031c, 0x031d, 0x0320, 0x0321}
	g.warm("P15.2: stores", pcs, 3)
	g.pass("P15.2: stores", 100)
	keys(t, "P15.2: stores", g.m, ramKey(0x0300), ramKey(0x0305), ramKey(0x031c), ramKey(0x0321), ramKey(0x1b05), key(0x8000, 0))
	stats(t, "P15.2: stores", g.m, api.Stats{Blocks: 1, Misses: 1, Dropped: 7})
	g.holds("P15.2: stores")
}

// A step's stores are told of too: each place once, as a block goes but once.
func TestStepStores(t *testing.T) {
	ram := func(s *api.State) {
		for i := range s.Mem.Ram {
			s.Mem.Ram[i] = 0xe8
		}
		high(s)
	}
	for name, x := range map[string]struct {
		code    []uint8
		pcs     []uint16
		cycles  int
		dropped int
	}{
		"INC $0302":           {[]uint8{0xee, 0x02, 0x03}, []uint16{0x0301, 0x0302, 0x0303}, 6, 2},
		"STA $0302":           {[]uint8{0x8d, 0x02, 0x03}, []uint16{0x0301, 0x0302, 0x0303}, 4, 2},
		"PHA":                 {[]uint8{0x48}, []uint16{0x01fc, 0x01fd, 0x01fe}, 3, 2},
		"JSR":                 {[]uint8{0x20, 0x00, 0x90}, []uint16{0x01fa, 0x01fb, 0x01fc, 0x01fd, 0x01fe}, 6, 3},
		"BRK":                 {[]uint8{0x00}, []uint16{0x01f9, 0x01fa, 0x01fb, 0x01fc, 0x01fd, 0x01fe}, 7, 4},
		"LDA $0302":           {[]uint8{0xad, 0x02, 0x03}, []uint16{0x0301, 0x0302, 0x0303}, 4, 0},
		"STA $2000, a device": {[]uint8{0x8d, 0x00, 0x20}, []uint16{0x0000, 0x07ff, 0x0001}, 4, 0},
		"STA $8000, a board":  {[]uint8{0x8d, 0x00, 0x80}, []uint16{0x8010, 0x8000, 0x0001}, 4, 0},
	} {
		c := console(x.code...)
		g := beside(t, c, standing(t, c, ram), 65536, 2)
		g.warm(name, x.pcs, 1)
		if n := g.pass("P15.2: a step with "+name, 1); n != x.cycles {
			t.Errorf("P15.2: a step with %s: %d cycles, want %d", name, n, x.cycles)
		}
		if s := g.m.Stats(); s.Dropped != x.dropped || s.Steps != 1 {
			t.Errorf("P15.2: a step with %s: %+v, want %d dropped", name, s, x.dropped)
		}
		g.holds("P15.2: a step with " + name)
	}
	// An IRQ's pushes.
	c := console()
	g := beside(t, c, standing(t, c, func(s *api.State) { ram(s); s.Cpu.Take = 1 }), 65536, 2)
	g.warm("an IRQ", []uint16{0x01f9, 0x01fa, 0x01fb, 0x01fd, 0x01fe}, 1)
	g.pass("P15.2: an IRQ", 100)
	keys(t, "P15.2: an IRQ", g.m, ramKey(0x01f9), ramKey(0x01fe))
}

// What blocks store is told of at once, and not again behind a later step, by when another block may lie there.
func TestOldStores(t *testing.T) {
	c := console()
	g := beside(t, c, standing(t, c, func(s *api.State) {
		inRam(0x0200, 0xa9, 0xea, 0x8d, 0x00, 0x03, 0x4c, 0x00, 0x03)(s)
		copy(s.Mem.Ram[0x300:], []uint8{0xea, 0xe8, 0x4c, 0x10, 0x03})
		copy(s.Mem.Ram[0x310:], []uint8{0x58, 0x4c, 0x00, 0x03})
	}), 1000, 8)
	for range 3 {
		g.pass("P15.2: old stores", 100)
	}
	stats(t, "P15.2: old stores", g.m, api.Stats{Steps: 1, Blocks: 2, Misses: 3})
	keys(t, "P15.2: old stores", g.m, ramKey(0x0200), ramKey(0x0300))
}

// A byte behind a block's last one is none of its own.
func TestStoreBehindBlock(t *testing.T) {
	c := console()
	// $0300: LDA #$E8, STA $0305, and CLI at $0305, which no block has.
	g := beside(t, c, standing(t, c, inRam(0x0300, 0xa9, 0xe8, 0x8d, 0x05, 0x03, 0x58, 0x4c, 0x00, 0x03)), 64, 8)
	g.pass("P15.2: a store right behind the block", 100)
	if e := g.all[0]; e.Left != api.LeftEnd || e.Insts != 2 || len(e.Bytes) != 5 {
		t.Errorf("P15.2: a store right behind the block: %+v", e)
	}
	keys(t, "P15.2: a store right behind the block", g.m, ramKey(0x0300))
	for range 6 {
		g.pass("P15.2: a store right behind the block", 100)
	}
}
