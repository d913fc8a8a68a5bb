package interp_test

import (
	"fmt"
	"slices"
	"testing"

	"tandem/api"
	"tandem/isa"
)

// lastPoll is the number, from 0 on, of the last cycle whose end is polled; -1: none is.
func (x trial) lastPoll() int {
	n := x.cycles()
	switch isa.Decode(x.code).Kind {
	case api.KindBreak, api.KindJam:
		return -1
	case api.KindBranch:
		if n == 4 {
			return 2
		}
		return 0
	}
	return n - 2
}

// An IRQ that comes in each cycle of each instruction. I is clear, on the trial's stack too.
func TestIrqInEachCycle(t *testing.T) {
	for _, x := range trials(inRam) {
		for k := range x.cycles() + 1 {
			m := at(t, x.cart(), func(s *api.State) { x.turn(s); irqIn(s, k) })
			want := api.TakeNone
			if k <= x.lastPoll() {
				want = api.TakeIrq
			}
			takes(t, fmt.Sprintf("P12.4: an IRQ in cycle %d of %v", k, x), m, want)
		}
	}
}

// An IRQ that comes while I is set is not seen, but for RTI, which finds I clear on the stack.
func TestIrqMasked(t *testing.T) {
	for _, x := range trials(inRam) {
		for k := range x.cycles() + 1 {
			m := at(t, x.cart(), func(s *api.State) { x.turn(s); irqIn(s, k); s.Cpu.Regs.P |= 0x04 })
			want := api.TakeNone
			if isa.Decode(x.code).Op == api.OpRTI && k <= 4 {
				want = api.TakeIrq
			}
			takes(t, fmt.Sprintf("P12.4: a masked IRQ in cycle %d of %v", k, x), m, want)
		}
	}
}

// An NMI that comes in each cycle of each instruction, with I set and clear: it is seen, or the latch keeps it for later.
func TestNmiInEachCycle(t *testing.T) {
	for _, x := range trials(inRam) {
		n := x.cycles()
		for k := range n + 1 {
			for _, mask := range []uint8{0, 0x04} {
				m := at(t, x.cart(), func(s *api.State) { x.turn(s); nmiIn(s, k); s.Cpu.Regs.P |= mask })
				want := api.TakeNone
				if k <= x.lastPoll() {
					want = api.TakeNmi
				}
				what := fmt.Sprintf("P12.4: an NMI in cycle %d of %v", k, x)
				takes(t, what, m, want)
				latch := k < n
				if x.code == 0x00 && k <= 4 { // it went the NMI's way
					latch = false
				}
				if m.State().Mem.Nmi != latch {
					t.Errorf("%s: the latch is %v", what, !latch)
				}
			}
		}
	}
}

// All opcodes beside the stepper, with an NMI and an IRQ that come in each cycle, with what comes of them.
func TestTrialsInTandem(t *testing.T) {
	for _, page := range []uint8{inRam, nowhere} {
		for _, x := range trials(page) {
			c, s := x.cart(), standing(t, x.cart(), x.turn)
			for k := -1; k <= x.cycles(); k++ {
				for _, mask := range []uint8{0, 0x04} {
					for _, nmi := range []bool{false, true} {
						s := s
						switch {
						case k < 0:
						case nmi:
							nmiIn(&s, k)
						default:
							irqIn(&s, k)
						}
						s.Cpu.Regs.P |= mask
						p := beside(t, c, s)
						for range 3 {
							p.step(x.String())
						}
					}
				}
			}
		}
	}
}

// An NMI goes ahead of an IRQ, whichever came first.
func TestNmiAheadOfIrq(t *testing.T) {
	for nmi := range 7 {
		for irq := range 7 {
			m := at(t, console(0xee, 0x00, 0x02), func(s *api.State) { // INC $0200: six cycles, polled behind the fifth
				nmiIn(s, nmi)
				irqIn(s, irq)
				s.Cpu.Regs.P = 0x20
			})
			want := api.TakeNone
			if irq <= 4 {
				want = api.TakeIrq
			}
			if nmi <= 4 {
				want = api.TakeNmi
			}
			takes(t, fmt.Sprintf("P12.4: an NMI in cycle %d, an IRQ in %d", nmi, irq), m, want)
		}
	}
}

// CLI, SEI and PLP are polled with the old I, RTI with the new one; what follows sees the new one in each case.
func TestPollsAndTheFlag(t *testing.T) {
	for _, x := range []struct {
		name        string
		code        uint8
		p, stack    uint8
		first, next uint8
	}{
		{"CLI with I set", 0x58, 0x24, 0, 0, 1},
		{"CLI with I clear", 0x58, 0x20, 0, 1, 0},
		{"SEI with I clear", 0x78, 0x20, 0, 1, 0},
		{"SEI with I set", 0x78, 0x24, 0, 0, 0},
		{"PLP that clears I", 0x28, 0x24, 0x00, 0, 1},
		{"PLP that sets I", 0x28, 0x20, 0x04, 1, 0},
		{"PLP that leaves I set", 0x28, 0x24, 0x04, 0, 0},
		{"PLP that leaves I clear", 0x28, 0x20, 0x00, 1, 0},
		{"RTI that clears I", 0x40, 0x24, 0x00, 1, 0},
		{"RTI that sets I", 0x40, 0x20, 0x04, 0, 0},
		{"RTI that leaves I set", 0x40, 0x24, 0x04, 0, 0},
		{"RTI that leaves I clear", 0x40, 0x20, 0x00, 1, 0},
	} {
		m := at(t, console(x.code), func(s *api.State) {
			high(s)
			s.Cpu.Regs.P = x.p
			s.Mem.Ram[0x1fe], s.Mem.Ram[0x1ff], s.Mem.Ram[0x100] = x.stack, 0x00, 0x90
		})
		takes(t, "P12.4: "+x.name, m, x.first)
		takes(t, "P12.4: what follows "+x.name, m, x.next) // behind a Take of 1 an entry, behind which Take is 0
	}
	// CLI and SEI at once: the IRQ comes between them, and finds I set in P, as SEI was done.
	m := at(t, console(0x58, 0x78), high)
	takes(t, "P12.4: CLI", m, 0)
	takes(t, "P12.4: SEI behind it", m, 1)
	steps(t, "P12.3: the IRQ", m, 7)
	events(t, "P12.4: CLI, SEI", m, api.Event{Cycle: 4, Kind: api.EventIrq, PC: 0x8002, P: 0x24, Vector: 0xfffe})
}

// All that may ask for an IRQ: the timer, the sequencer, the board.
func TestLevels(t *testing.T) {
	clear := func(s *api.State) { s.Cpu.Regs.P = 0x20 }
	m := at(t, console(), func(s *api.State) { clear(s); s.Mem.Clock.Frame = true })
	takes(t, "P12.4: the sequencer", m, 1)
	m = at(t, console(), func(s *api.State) { clear(s); high(s) })
	takes(t, "P12.4: the timer", m, 1)
	m = at(t, console(), func(s *api.State) { clear(s); s.Mem.Clock.Flag = true })
	takes(t, "P12.4: a timer that does not ask", m, 0)
	c := console()
	c.Mapper = api.MMC3
	m = at(t, c, func(s *api.State) { clear(s); s.Mem.Board.IrqOn, s.Mem.Board.Irq = true, true })
	takes(t, "P12.4: the board", m, 1)
}

// A level that falls ahead of the poll is not seen; one that falls behind it is taken all the same.
func TestLevelsThatFall(t *testing.T) {
	turn := func(s *api.State) { high(s); s.Cpu.Regs.P = 0x20 }
	m := at(t, console(0x8d, 0x1b, 0x40), turn) // STA $401B acknowledges in its fourth cycle, behind its poll
	takes(t, "P12.4: a level that falls in the last cycle", m, 1)
	steps(t, "P12.3: the IRQ", m, 7)
	events(t, "P12.4: a level that falls in the last cycle", m, api.Event{Cycle: 4, Kind: api.EventIrq, PC: 0x8003, P: 0x20, Vector: 0xfffe})
	m = at(t, console(0xee, 0x1b, 0x40), turn) // INC $401B: its read, the fourth of six cycles, acknowledges
	takes(t, "P12.4: a level that falls ahead of the poll", m, 0)
}

// A branch is polled behind its first cycle; if it crosses a page behind its third too; and what was found stays.
func TestBranchPolls(t *testing.T) {
	c := console()
	copy(c.Prg[0x00:], []byte{0xd0, 0x10}) // three cycles
	copy(c.Prg[0xf0:], []byte{0xd0, 0x10}) // four
	copy(c.Prg[0x80:], []byte{0xf0, 0x10}) // two
	for pc, seen := range map[uint16][]int{0x8080: {0}, 0x8000: {0}, 0x80f0: {0, 1, 2}} {
		for k := range 5 {
			want := uint8(0)
			if slices.Contains(seen, k) {
				want = 1
			}
			m := at(t, c, func(s *api.State) { irqIn(s, k); s.Cpu.Regs.P, s.Cpu.Regs.PC = 0x20, pc })
			takes(t, fmt.Sprintf("P12.4: a branch at %#x, an IRQ in cycle %d", pc, k), m, want)
			m = at(t, c, func(s *api.State) { nmiIn(s, k); s.Cpu.Regs.PC = pc })
			takes(t, fmt.Sprintf("P12.4: a branch at %#x, an NMI in cycle %d", pc, k), m, 2*want)
			// An IRQ that the first poll found stays, though an NMI has come by the third cycle.
			m = at(t, c, func(s *api.State) { high(s); nmiIn(s, k); s.Cpu.Regs.P, s.Cpu.Regs.PC = 0x20, pc })
			want = 1
			if k == 0 {
				want = 2
			}
			takes(t, fmt.Sprintf("P12.4: a branch at %#x with an IRQ, an NMI in cycle %d", pc, k), m, want)
		}
	}
}

// An NMI that a write raises comes in the write's own cycle, behind the poll: one more instruction goes ahead of it.
func TestNmiByWrite(t *testing.T) {
	m := at(t, console(0x8d, 0x00, 0x20, 0xea, 0xea), func(s *api.State) {
		s.Cpu.Regs.A = 0x80
		s.Mem.Raster = api.Raster{Line: 245, Vbl: true}
	})
	takes(t, "P12.4: STA $2000", m, 0)
	if s := m.State().Mem; !s.Nmi || !s.Line {
		t.Error("One cycle: the line is not sampled in the write's cycle")
	}
	takes(t, "P12.4: NOP behind it", m, 2)
	steps(t, "P12.3: the NMI", m, 7)
	events(t, "P12.4: STA $2000", m, api.Event{Cycle: 6, Kind: api.EventNmi, PC: 0x8004, P: 0x24, Vector: 0xfffa})
}
