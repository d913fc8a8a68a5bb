package dbt_test

import (
	"testing"

	"tandem/api"
)

// mmc3 is a cartridge of eight banks of 8 KiB: each begins with LDA #(its number), JMP $E000; the last one with code of its own.
func mmc3(code ...uint8) api.Cart {
	c := api.Cart{Mapper: api.MMC3, PrgRam: 8192, Prg: make([]byte, 4*api.PrgUnit)}
	for i := range c.Prg {
		c.Prg[i] = 0xea
	}
	for bank := range 8 {
		copy(c.Prg[bank*api.Bank8:], []uint8{0xa9, uint8(bank), 0x4c, 0x00, 0xe0})
	}
	copy(c.Prg[7*api.Bank8:], code)
	copy(c.Prg[len(c.Prg)-6:], []uint8{0x00, 0xe0, 0x00, 0xe0, 0x00, 0xe0})
	return c
}

// Code in work RAM, which is switched off and on, and whose writes are.
func TestWorkRam(t *testing.T) {
	c := mmc3(
		0xa2, 0x00, // LDX #$00
		0x8e, 0x01, 0xa0, // STX $A001: off
		0xad, 0x10, 0x60, // LDA $6010: nothing answers
		0xa2, 0x80, // LDX #$80
		0x8e, 0x01, 0xa0, // on
		0x4c, 0x00, 0x60, // JMP $6000
	)
	s := standing(t, c, func(s *api.State) {
		s.Cpu.Regs.PC = 0xe000
		copy(s.Mem.Work[:], []uint8{
			0xee, 0x20, 0x60, // $6000: INC $6020
			0xa9, 0xc0, // LDA #$C0
			0x8d, 0x01, 0xa0, // STA $A001: on, but not to be written
			0xee, 0x20, 0x60, // INC $6020: to no effect
			0xe8,             // INX
			0x4c, 0x00, 0xe0, // JMP $E000
		})
	})
	g := beside(t, c, s, 256, 8)
	for range 300 {
		g.pass("P15.7: work RAM", 100)
	}
	g.holds("P15.7: work RAM")
	if n := g.m.State().Mem.Work[0x20]; n < 5 {
		t.Errorf("work RAM was written %d times: too few to tell", n)
	}
	hits := 0
	for _, e := range g.all {
		if e.Hit && e.Tag == api.TagWork {
			hits++
		}
	}
	if hits < 5 {
		t.Errorf("%d hits in work RAM: too few to tell", hits)
	}
}

// Where work RAM is off no block of it is entered, and the cache is not asked; what was cached is there when it is on again.
func TestWorkRamOff(t *testing.T) {
	c := mmc3()
	on := standing(t, c, func(s *api.State) {
		s.Cpu.Regs.PC = 0x6000
		s.Mem.Board.Guard = 0x80
		for i := range s.Mem.Work {
			s.Mem.Work[i] = 0xe8
		}
	})
	m := from(t, c, on, 256, 8)
	passes(t, "P15.2: work RAM that is on", m, 16)
	stats(t, "P15.2: work RAM that is on", m, api.Stats{Blocks: 1, Misses: 1})
	keys(t, "P15.2: work RAM that is on", m, key(0x6000, api.TagWork))
	off := on
	off.Mem.Board.Guard = 0x00
	off.Mem.Open = 0xc8
	m = from(t, c, off, 256, 8)
	passes(t, "P15.2: work RAM that is off", m, 2, 2)
	stats(t, "P15.2: work RAM that is off", m, api.Stats{Steps: 2})
	warms(t, "P15.5: work RAM that is off", m, []uint16{0x6000, 0x7000}, 1, 0, api.OK)
	keys(t, "P15.2: work RAM that is off", m)
}

// A store over code in work RAM, ahead of and behind the storing instruction, from a block there and from another.
func TestWorkRamStores(t *testing.T) {
	c := mmc3(0xee, 0x02, 0x60, 0x4c, 0x00, 0x60) // $E000: INC $6002, JMP $6000
	for to := 0x6000; to < 0x6010; to++ {
		s := standing(t, c, func(s *api.State) {
			s.Cpu.Regs.PC = 0x6000
			s.Mem.Board.Guard = 0x80
			copy(s.Mem.Work[:], []uint8{0xa2, 0x00, 0xa9, 0xe8, 0x8d, uint8(to), 0x60, 0xa0, 0x05, 0xe8, 0x4c, 0x00, 0xe0})
		})
		g := beside(t, c, s, 256, 8)
		g.pass("P15.8: a store into work RAM", 100)
		if e := g.all[0]; (e.Left == api.LeftStore) != (to < 0x600d) || e.Tag != api.TagWork {
			t.Errorf("P15.8: a store to $%04X: %+v", to, e)
		}
		for range 20 {
			g.pass("P15.8: a store into work RAM", 100)
		}
		g.holds("P15.8: a store into work RAM")
	}
}

// Banks that are switched: one address, a block for each bank, all of them cached.
func TestBanks(t *testing.T) {
	c := mmc3(
		0xa9, 0x06, // LDA #6
		0x8d, 0x00, 0x80, // STA $8000: the register of window 0
		0xe8,       // INX
		0x8a,       // TXA
		0x29, 0x03, // AND #3
		0x8d, 0x01, 0x80, // STA $8001: the bank
		0x4c, 0x00, 0x80, // JMP $8000
	)
	g := powered(t, c, 4096, 8)
	for range 200 {
		g.pass("P15.7: banks", 100)
	}
	g.holds("P15.7: banks")
	seen := map[int]int{}
	for _, e := range g.all {
		if e.PC == 0x8000 {
			seen[e.Tag]++
			if e.Bytes != "\xa9"+string(rune(e.Tag))+"\x4c\x00\xe0" {
				t.Errorf("P15.8: the block of bank %d: %q", e.Tag, e.Bytes)
			}
			if e.Hit != (seen[e.Tag] > 1) {
				t.Errorf("P15.2: bank %d the %dth time: hit %v", e.Tag, seen[e.Tag], e.Hit)
			}
		}
	}
	if len(seen) != 4 || seen[0] < 5 || seen[3] < 5 {
		t.Errorf("banks that were entered: %v: too few to tell", seen)
	}
	for bank := range 4 {
		if s := g.m.Keys(); !contains(s, key(0x8000, bank)) {
			t.Errorf("P15.6: no key of bank %d: %v", bank, s)
		}
	}
}

func contains(l []api.Key, k api.Key) bool {
	for _, x := range l {
		if x == k {
			return true
		}
	}
	return false
}

// One bank at two addresses has two keys; so has RAM in its mirrors.
func TestMirrors(t *testing.T) {
	c := api.Cart{Prg: make([]byte, api.PrgUnit)}
	for i := range c.Prg {
		c.Prg[i] = 0xe8
	}
	copy(c.Prg[0x10:], []uint8{0x4c, 0x00, 0xc0}) // JMP $C000
	s := standing(t, c, as)
	g := beside(t, c, s, 65536, 64)
	g.pass("P15.2: a mirror", 100)
	g.pass("P15.2: a mirror", 100)
	keys(t, "P15.2: mirrors", g.m, key(0x8000, 0), key(0xc000, 0))
	s = standing(t, c, func(s *api.State) {
		s.Cpu.Regs.PC = 0x0300
		copy(s.Mem.Ram[0x300:], []uint8{0xe8, 0x6c, 0x80, 0x00}) // INX, JMP ($0080)
		s.Mem.Ram[0x80], s.Mem.Ram[0x81] = 0x00, 0x0b
	})
	g = beside(t, c, s, 65536, 64)
	g.pass("P15.2: a mirror of RAM", 100)
	g.pass("P15.2: a mirror of RAM", 100)
	keys(t, "P15.2: mirrors of RAM", g.m, ramKey(0x0300), ramKey(0x0b00))
}

// Keys that share a slot drive each other out.
func TestSharedSlot(t *testing.T) {
	c := console(0x4c, 0x10, 0x80) // JMP $8010
	copy(c.Prg[0x10:], []uint8{0x4c, 0x07, 0x80})
	copy(c.Prg[0x07:], []uint8{0x4c, 0x00, 0x80})
	for size, want := range map[int]api.Stats{
		1:  {Blocks: 30, Misses: 30, Evicted: 29},
		2:  {Blocks: 30, Misses: 21, Hits: 9, Evicted: 19}, // $8000 and $8010 share one
		16: {Blocks: 30, Misses: 21, Hits: 9, Evicted: 19},
		17: {Blocks: 30, Misses: 3, Hits: 27},
	} {
		g := beside(t, c, standing(t, c, as), size, 8)
		for range 30 {
			g.pass("P15.2: shared slots", 100)
		}
		stats(t, "P15.2: shared slots", g.m, want)
		g.holds("P15.2: shared slots")
	}
}
