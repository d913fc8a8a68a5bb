package dbt_test

import (
	"testing"

	"tandem/api"
)

// Budgets, and how many cycles go by.
func TestPlay(t *testing.T) {
	for _, x := range []struct {
		budget uint32
		want   int
	}{{0, 0}, {1, 7}, {7, 7}, {8, 9}, {9, 9}, {14, 14}, {15, 16}} {
		m := begun(t, console(counting...), 16, 8)
		plays(t, "P15.3", m, api.Turn{Budget: x.budget}, x.want, api.OK)
	}
	m := behindReset(t, 0x4c, 0x00, 0x80) // JMP $8000
	for budget := range uint32(40) {
		want := int(budget+2) / 3 * 3
		plays(t, "P15.3: a loop", m, api.Turn{Budget: budget}, want, api.OK)
	}
	m = begun(t, console(0xfe, 0x00, 0x02), 16, 8) // INC $0200,X: 7 cycles, of which one may be missing
	plays(t, "P14: a turn's last instruction", m, api.Turn{Budget: 8}, 14, api.OK)
}

// Each pass of a turn has as much left as is missing of the budget.
func TestPlayIsPasses(t *testing.T) {
	for _, c := range carts() {
		m, k := begun(t, c, 64, 16), begun(t, c, 64, 16)
		for budget := range 300 {
			done := 0
			for done < budget {
				done += k.Pass(budget - done)
			}
			plays(t, "P15.3: a turn is its passes", m, api.Turn{Budget: uint32(budget)}, done, api.OK)
			if m.State().Cpu.Jam {
				m.Reset()
				k.Reset()
			}
		}
		sameState(t, "P15.3: a turn is its passes", m, k.State())
		stats(t, "P15.3: a turn is its passes", m, k.Stats())
		entries(t, "P15.3: a turn is its passes", m, k.Entries()...)
	}
}

// The button, the flush and the pads come ahead of the cycles, with a budget of 0 too.
func TestPlayFirst(t *testing.T) {
	m := behindReset(t, counting...)
	passes(t, "ahead", m, 7)
	plays(t, "P15.3: all of it", m, api.Turn{One: 0x81, Two: 0x42, Reset: true, Flush: true}, 0, api.OK)
	s := m.State()
	if s.Cpu.Take != api.TakeReset || s.Mem.Pads.Held != [2]uint8{0x81, 0x42} || m.Stats().Flushes != 1 {
		t.Errorf("P15.3: all of it: %+v, %v, %+v", s.Cpu, s.Mem.Pads, m.Stats())
	}
	keys(t, "P15.3: all of it", m)
	plays(t, "P15.3: the reset", m, api.Turn{Budget: 1}, 7, api.OK)
	if s := m.State(); s.Mem.Pads.Held != [2]uint8{0, 0} || s.Cpu.Regs.PC != 0x8000 {
		t.Errorf("P15.3: the next turn: %+v, %v", s.Cpu, s.Mem.Pads)
	}
	// Neither is done without being asked for.
	passes(t, "P15.3", m, 7)
	plays(t, "P15.3: nothing of it", m, api.Turn{}, 0, api.OK)
	if s := m.State(); s.Cpu.Take != 0 || m.Stats().Flushes != 1 {
		t.Errorf("P15.3: nothing of it: %+v", s.Cpu)
	}
	keys(t, "P15.3: nothing of it", m, key(0x8000, 0))
}

// A turn that is refused leaves all as it was.
func TestPlayRefused(t *testing.T) {
	c := console(counting...)
	for _, budget := range []uint32{1, 2, 100, 1<<32 - 1} {
		m := at(t, c, func(s *api.State) { s.Mem.Cycle = api.MaxCycle - int(budget) + 1 })
		warms(t, "ahead", m, []uint16{0x8000}, 1, 1, api.OK)
		was := m.State()
		plays(t, "P15.3: one more than MaxCycle", m, api.Turn{Budget: budget, One: 1, Two: 2, Reset: true, Flush: true}, 0, api.ErrArg)
		sameState(t, "P15.3: a turn that is refused", m, was)
		stats(t, "P15.3: a turn that is refused", m, api.Stats{})
		keys(t, "P15.3: a turn that is refused", m, key(0x8000, 0))
		if budget < 1000 {
			m = at(t, console(), func(s *api.State) { s.Mem.Cycle = api.MaxCycle - int(budget) })
			plays(t, "P15.3: up to MaxCycle", m, api.Turn{Budget: budget}, int(budget+budget%2), api.OK)
		}
	}
	m := at(t, console(0x13, 0x10), func(s *api.State) { s.Mem.Cycle = api.MaxCycle - 1 }) // SLO ($10),Y: eight cycles
	plays(t, "P4: the longest instruction", m, api.Turn{Budget: 1}, 8, api.OK)
	if s := m.State(); s.Mem.Cycle != api.EndCycle || s.Cpu.Regs.PC != 0x8002 {
		t.Errorf("P4: it ends in cycle %d", s.Mem.Cycle)
	}
}

// Every call with MaxCycle cycles done, or more.
func TestEndOfTime(t *testing.T) {
	c := console(counting...)
	for cycle := api.MaxCycle; cycle <= api.EndCycle; cycle++ {
		for name, turn := range map[string]func(s *api.State){
			"a block":      as,
			"a jammed CPU": func(s *api.State) { s.Cpu.Jam = true },
			"DMA":          func(s *api.State) { s.Mem.Dma = api.Dma{On: true, Page: 2} },
			"an NMI":       func(s *api.State) { s.Cpu.Take, s.Mem.Nmi = 2, true },
		} {
			m := at(t, c, func(s *api.State) { turn(s); s.Mem.Cycle = cycle })
			was := m.State()
			passes(t, "P15.2: "+name+" at the end of time", m, 0, 0)
			plays(t, "P15.3: "+name, m, api.Turn{Budget: 1, One: 1, Reset: true, Flush: true}, 0, api.ErrArg)
			want := api.OK
			if cycle > api.MaxCycle {
				want = api.ErrArg
				plays(t, "P15.3: "+name, m, api.Turn{One: 1, Reset: true, Flush: true}, 0, want)
			}
			sameState(t, "P4: "+name+" at the end of time", m, was)
			stats(t, "P4: "+name+" at the end of time", m, api.Stats{})
			plays(t, "P15.3: "+name, m, api.Turn{One: 8, Two: 9}, 0, want)
			if held := m.State().Mem.Pads.Held; (want == api.OK) != (held == [2]uint8{8, 9}) {
				t.Errorf("P15.3: an empty turn with %s at the end of time: %v", name, held)
			}
			m.Press(3, 4)
			m.Flush()
			warms(t, "P15.5: at the end of time", m, []uint16{0x8000, 0x2000}, 2, 1, api.OK)
			stats(t, "P15.4: at the end of time", m, api.Stats{Flushes: 1})
			keys(t, "P15.5: at the end of time", m, key(0x8000, 0))
			if e := m.Reset(); e != api.OK {
				t.Errorf("P15.4: Reset at the end of time: %d", e)
			}
			s := m.State()
			if s.Cpu.Take != api.TakeReset || s.Cpu.Jam || s.Mem.Dma.On || s.Mem.Pads.Held != [2]uint8{3, 4} || s.Mem.Cycle != cycle {
				t.Errorf("P15.4: Press and Reset with %s at the end of time: %+v", name, s.Cpu)
			}
			passes(t, "P15.2: a reset at the end of time", m, 0)
		}
	}
}

// The button: what the interpreter's does, and the cache stays.
func TestReset(t *testing.T) {
	c := console(0xa2, 0x05, 0x02) // LDX #5, JAM
	g := beside(t, c, standing(t, c, as), 16, 8)
	for range 5 {
		g.pass("a JAM", 100)
	}
	if !g.y.Cpu().Jam {
		t.Fatal("no JAM")
	}
	was := g.m.Stats()
	keys(t, "P15.4: ahead of the button", g.m, key(0x8000, 0))
	g.reset("P15.4: the button wakes")
	keys(t, "P15.4: the button", g.m, key(0x8000, 0))
	stats(t, "P15.4: the button", g.m, was)
	g.pass("P15.4: the reset entry", 100)
	g.pass("P15.4: behind it", 100)
	if l := g.all; len(l) != 2 || !l[1].Hit {
		t.Errorf("P15.4: the block is there yet: %+v", l)
	}
	// DMA is given up.
	g = beside(t, c, standing(t, c, func(s *api.State) { s.Mem.Dma = api.Dma{On: true, Page: 3, Step: 77, Val: 9} }), 16, 8)
	g.reset("P15.4: the button in a DMA")
	g.pass("P15.4: the button in a DMA", 100)
}

// Flush counts, with something in the cache or nothing.
func TestFlush(t *testing.T) {
	m := behindReset(t, counting...)
	m.Flush()
	stats(t, "P15.4: a flush of nothing", m, api.Stats{Steps: 1, Flushes: 1})
	passes(t, "P15.4", m, 7, 5)
	was := m.State()
	m.Flush()
	keys(t, "P15.4: a flush", m)
	sameState(t, "P15.9: a flush", m, was)
	stats(t, "P15.4: a flush", m, api.Stats{Steps: 1, Blocks: 2, Misses: 2, Flushes: 2})
	m.Flush()
	passes(t, "P15.4: behind a flush", m, 5, 5)
	stats(t, "P15.4: behind a flush", m, api.Stats{Steps: 1, Blocks: 4, Hits: 1, Misses: 3, Flushes: 3})
}

// Press is seen at the next strobe.
func TestPress(t *testing.T) {
	c := console(0xa2, 0x01, 0x8e, 0x16, 0x40, 0xca, 0x8e, 0x16, 0x40, 0xad, 0x16, 0x40, 0x85, 0x10, 0xad, 0x17, 0x40, 0x85, 0x11, 0x4c, 0x00, 0x80)
	m := begun(t, c, 16, 8)
	for i, held := range [][2]uint8{{1, 0}, {0, 1}, {1, 1}, {0, 0}, {2, 0xfe}} {
		m.Press(held[0], held[1])
		if p := m.State().Mem.Pads.Held; p != held {
			t.Errorf("P15.4: Press: %v", p)
		}
		for range 20 {
			m.Pass(100)
		}
		if r := m.State().Mem.Ram; r[0x10]&1 != held[0]&1 || r[0x11]&1 != held[1]&1 {
			t.Errorf("P15.4: pads %d: %d, %d", i, r[0x10], r[0x11])
		}
	}
}
