package dbt_test

import (
	"math"
	"testing"

	"tandem/api"
)

// With nothing left nothing happens.
func TestNothingLeft(t *testing.T) {
	m := behindReset(t, counting...)
	was := m.State()
	for _, left := range []int{0, -1, -100, math.MinInt} {
		pass(t, "P15.2: nothing left", m, left, 0)
	}
	sameState(t, "P15.2: nothing left", m, was)
	stats(t, "P15.2: nothing left", m, api.Stats{Steps: 1})
}

// What is left is below, at and above a block's Most, which is 7.
func TestLeft(t *testing.T) {
	for left := 1; left < 7; left++ {
		m := behindReset(t, counting...)
		pass(t, "P15.2: less than Most is left", m, left, 2)
		stats(t, "P15.2: less than Most is left", m, api.Stats{Steps: 2, Misses: 1})
		keys(t, "P15.2: less than Most is left", m, key(0x8000, 0))
		entries(t, "P15.2: less than Most is left", m)
	}
	for _, left := range []int{7, 8, 1000, api.MaxCycle, math.MaxInt} {
		m := behindReset(t, counting...)
		pass(t, "P15.2: Most is left", m, left, 7)
		stats(t, "P15.2: Most is left", m, api.Stats{Steps: 1, Blocks: 1, Misses: 1})
	}
	// Most counts, not what the block takes in the end: BNE is not taken.
	m := behindReset(t, 0xa2, 0x00, 0xd0, 0x10)
	pass(t, "P15.2: Most is one more than what it takes", m, 4, 2)
	m = behindReset(t, 0xa2, 0x00, 0xd0, 0x10)
	pass(t, "P15.2: Most is one more than what it takes", m, 5, 4)
	// A step may end behind what is left.
	m = behindReset(t, 0xfe, 0x00, 0x02)
	pass(t, "P15.2: INC with one cycle left", m, 1, 7)
}

// Just ahead of MaxCycle less is left than Pass is told.
func TestLeftToTheEnd(t *testing.T) {
	c := console(counting...)
	near := func(cycles int) func(s *api.State) {
		return func(s *api.State) { s.Mem.Cycle = api.MaxCycle - cycles }
	}
	for _, left := range []int{7, 8, math.MaxInt} {
		m := at(t, c, near(7))
		pass(t, "P15.2: a block up to MaxCycle", m, left, 7)
		stats(t, "P15.2: a block up to MaxCycle", m, api.Stats{Blocks: 1, Misses: 1})
		pass(t, "P15.2: at MaxCycle", m, left, 0)
		m = at(t, c, near(6))
		pass(t, "P15.2: a block that could pass MaxCycle", m, left, 2)
		stats(t, "P15.2: a block that could pass MaxCycle", m, api.Stats{Steps: 1, Misses: 1})
		for cycles := 1; cycles >= -7; cycles-- {
			m = at(t, console(0x13, 0x10), near(cycles)) // SLO ($10),Y: eight cycles
			was := m.State()
			want := 0
			if cycles > 0 {
				want = 8
			}
			pass(t, "P4: the longest instruction near MaxCycle", m, left, want)
			if want == 0 {
				sameState(t, "P4: behind MaxCycle", m, was)
				stats(t, "P4: behind MaxCycle", m, api.Stats{})
			}
		}
	}
}

// What a pass begins with a step for, without asking the cache.
func TestSteps(t *testing.T) {
	loop := console(counting...)
	noWork := console(counting...)
	noWork.PrgRam = 0
	for name, x := range map[string]struct {
		c    api.Cart
		turn func(s *api.State)
		want int
	}{
		"a jammed CPU":                  {loop, func(s *api.State) { s.Cpu.Jam = true }, 1},
		"DMA that waits":                {loop, func(s *api.State) { s.Mem.Dma = api.Dma{On: true, Page: 2} }, 1},
		"DMA that goes on":              {loop, func(s *api.State) { s.Mem.Dma = api.Dma{On: true, Page: 2, Step: 100} }, 1},
		"an IRQ":                        {loop, func(s *api.State) { s.Cpu.Take = 1 }, 7},
		"an NMI":                        {loop, func(s *api.State) { s.Cpu.Take, s.Mem.Nmi = 2, true }, 7},
		"a reset":                       {loop, func(s *api.State) { s.Cpu.Take = 3 }, 7},
		"a latch that stands":           {loop, func(s *api.State) { s.Mem.Nmi = true }, 2},
		"a level, with I clear":         {loop, func(s *api.State) { high(s); s.Cpu.Regs.P = 0x20 }, 2},
		"a video register, which is 0":  {loop, func(s *api.State) { s.Cpu.Regs.PC = 0x2000 }, 7}, // a BRK
		"nothing":                       {loop, func(s *api.State) { s.Cpu.Regs.PC, s.Mem.Open = 0x4020, 0xea }, 2},
		"work RAM that isn't there":     {noWork, func(s *api.State) { s.Cpu.Regs.PC, s.Mem.Open = 0x6000, 0xea }, 2},
		"the last byte ahead of memory": {noWork, func(s *api.State) { s.Cpu.Regs.PC, s.Mem.Open = 0x7fff, 0xea }, 2},
	} {
		m := at(t, x.c, x.turn)
		pass(t, "P15.2: "+name, m, 1000, x.want)
		stats(t, "P15.2: "+name, m, api.Stats{Steps: 1})
		keys(t, "P15.2: "+name, m)
		entries(t, "P15.2: "+name, m)
	}
}

// A level is nothing to a block where I is set; nor are the bits of P beside I.
func TestLevelWithI(t *testing.T) {
	m := at(t, console(counting...), func(s *api.State) { high(s); s.Cpu.Regs.P = 0x24 })
	pass(t, "P15.2: a level, with I set", m, 1000, 7)
	stats(t, "P15.2: a level, with I set", m, api.Stats{Blocks: 1, Misses: 1})
	m = at(t, console(counting...), func(s *api.State) { s.Cpu.Regs.P = 0x20 })
	pass(t, "P15.2: I clear, and no level", m, 1000, 7)
	stats(t, "P15.2: I clear, and no level", m, api.Stats{Blocks: 1, Misses: 1})
}

// The horizon is just below a block's Most, at it and above: by the timer and by the raster, with I set and clear, left being more than that.
func TestHorizon(t *testing.T) {
	c := console(counting...)
	for name, turn := range map[string]func(s *api.State, k int){
		"an NMI":              nmiIn,
		"an IRQ, I being set": irqIn,
		"an IRQ":              func(s *api.State, k int) { irqIn(s, k); s.Cpu.Regs.P = 0x20 },
	} {
		for k := range 12 {
			s := standing(t, c, func(s *api.State) { turn(s, k) })
			g := beside(t, c, s, 256, 8)
			horizon := g.y.Bus().Horizon()
			if horizon != k {
				t.Fatalf("%s in cycle %d: the horizon is %d", name, k, horizon)
			}
			want := api.Stats{Blocks: 1, Misses: 1}
			if k < 7 {
				want = api.Stats{Steps: 1, Misses: 1}
			}
			g.pass("P15.2: "+name, 1000)
			stats(t, "P15.2: "+name, g.m, want)
			keys(t, "P15.2: "+name, g.m, key(0x8000, 0))
			for range 30 {
				g.pass("P15.2: "+name, 1000)
			}
		}
	}
}

// The lesser of what is left and of the horizon is what a block may use.
func TestLeftAndHorizon(t *testing.T) {
	c := console(counting...)
	for left := 5; left < 10; left++ {
		for k := 5; k < 10; k++ {
			g := beside(t, c, standing(t, c, func(s *api.State) { nmiIn(s, k) }), 256, 8)
			n := g.pass("P15.2: left and horizon", left)
			if want := min(left, k) >= 7; (n == 7) != want {
				t.Errorf("P15.2: Pass(%d) with a horizon of %d: %d cycles", left, k, n)
			}
		}
	}
}

// A guard behind some instructions: they are done, and no step follows; the next pass begins with the one that is guarded.
func TestGuard(t *testing.T) {
	m := behindReset(t, 0xa9, 0x05, 0x8d, 0x00, 0x20, 0xe8) // LDA #5, STA $2000, INX
	passes(t, "P15.2: a guard", m, 2)
	bytes := "\xa9\x05\x8d\x00\x20\xe8\xea\xea\xea\xea\xea"
	entries(t, "P15.2: a guard", m, api.Entry{Cycle: 7, PC: 0x8000, Bytes: bytes, Insts: 1, Left: api.LeftGuard})
	stats(t, "P15.2: a guard", m, api.Stats{Steps: 1, Blocks: 1, Misses: 1, Guards: 1})
	if r := m.State(); r.Cpu.Regs.PC != 0x8002 || r.Cpu.Regs.A != 5 || r.Mem.Open != 5 {
		t.Errorf("P15.2: ahead of the guarded instruction: %+v, open %d", r.Cpu, r.Mem.Open)
	}
	passes(t, "P15.2: the guarded instruction", m, 4)
	entries(t, "P15.2: the guarded instruction", m, api.Entry{Cycle: 9, PC: 0x8002, Bytes: "\x8d\x00\x20\xe8\xea\xea\xea\xea\xea\xea", Left: api.LeftGuard})
	stats(t, "P15.2: the guarded instruction", m, api.Stats{Steps: 2, Blocks: 2, Misses: 2, Guards: 2})
	keys(t, "P15.2: the guarded instruction", m, key(0x8000, 0), key(0x8002, 0))
	if l := m.Log(); len(l) != 1 || l[0] != (api.Access{Cycle: 12, Addr: 0x2000, Val: 5, Write: true}) {
		t.Errorf("P15.7: accesses %+v", l)
	}
	passes(t, "P15.2: behind it", m, 16)
}

// What a block leaves on the bus is what the next read of nothing finds.
func TestOpenBehindBlock(t *testing.T) {
	c := console(0xa5, 0x10, 0xad, 0x00, 0x40) // LDA $10, LDA $4000
	g := beside(t, c, standing(t, c, func(s *api.State) { s.Mem.Ram[0x10], s.Mem.Open = 0x77, 0x11 }), 16, 8)
	g.pass("P15.2: open bus", 100)
	if s := g.m.State(); s.Mem.Open != 0x77 {
		t.Errorf("P15.2: open bus behind a block: %#x", s.Mem.Open)
	}
	g.pass("P15.2: open bus", 100)
	if s := g.m.State(); s.Cpu.Regs.A != 0x40 {
		t.Errorf("P15.2: a read of nothing: %#x", s.Cpu.Regs.A)
	}
	// A block that is left at once leaves what was there: $4000 behind JMP's last byte.
	c = console(0xad, 0x00, 0x40)
	g = beside(t, c, standing(t, c, func(s *api.State) { s.Mem.Open = 0x11 }), 16, 8)
	g.pass("P15.2: open bus", 100)
}

// Blocks have no more instructions than the limit.
func TestLimit(t *testing.T) {
	for limit := 1; limit <= api.MaxLimit; limit++ {
		m := from(t, console(), standing(t, console(), as), 16, limit)
		pass(t, "P15.1: the limit", m, 1000, 2*limit)
		if l := m.Entries(); len(l) != 1 || l[0].Insts != limit || len(l[0].Bytes) != limit {
			t.Errorf("P15.1: with a limit of %d: %+v", limit, l)
		}
		long := console()
		for i := range 100 {
			copy(long.Prg[3*i:], []byte{0x0d, 0x00, 0x02}) // ORA $0200
		}
		m = from(t, long, standing(t, long, as), 16, limit)
		pass(t, "P15.1: the limit", m, 1000, 4*limit)
		if l := m.Entries(); len(l) != 1 || l[0].Insts != limit || len(l[0].Bytes) != 3*limit {
			t.Errorf("P15.1: with a limit of %d, three bytes each: %+v", limit, l)
		}
	}
}

// Blocks end with their windows: code that goes on from one into the next.
func TestWindows(t *testing.T) {
	c := console()
	for i := range c.Prg[:0x7ff0] {
		c.Prg[i] = byTurns(i, 0xe8, 0xc8, 0xca)
	}
	for _, pc := range []uint16{0x07f0, 0x0ff8, 0x17ff, 0x1ff0, 0x7ff1, 0x9ff0, 0xbff9, 0xdffd, 0xdffe, 0xdfff} {
		s := standing(t, c, func(s *api.State) {
			s.Cpu.Regs.PC = pc
			for i := range s.Mem.Ram {
				s.Mem.Ram[i] = byTurns(i, 0xe8, 0xc8, 0xea)
			}
			for i := range s.Mem.Work {
				s.Mem.Work[i] = byTurns(i, 0x88, 0xc8, 0xea)
			}
		})
		g := beside(t, c, s, 256, 64)
		for range 12 {
			g.pass("P15.2: over a window's end", 1000)
		}
		g.holds("P15.2: over a window's end")
	}
}

// byTurns picks one of a list by a number.
func byTurns(i int, l ...uint8) uint8 { return l[i%7%len(l)] }
