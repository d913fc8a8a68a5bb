package interp_test

import (
	"testing"

	"tandem/api"
	"tandem/bus"
	"tandem/interp"
)

// plays asks for what Play answers.
func plays(t *testing.T, what string, m *interp.Machine, turn api.Turn, want int, wanted api.Errno) {
	t.Helper()
	if n, e := m.Play(turn); n != want || e != wanted {
		t.Errorf("%s: Play(%+v) = %d, %d, want %d, %d", what, turn, n, e, want, wanted)
	}
}

// The budget ends at the first boundary at which it is used up.
func TestPlay(t *testing.T) {
	inc := console(0xfe, 0x00, 0x02, 0xfe, 0x00, 0x02, 0xa5, 0x00, 0x13, 0x10) // 7, 7, 3, 8 cycles
	for budget, want := range map[uint32]int{0: 0, 1: 7, 6: 7, 7: 7, 8: 14, 14: 14, 15: 17, 17: 17, 18: 25, 24: 25, 25: 25, 26: 27} {
		m := at(t, inc, as)
		plays(t, "P12.6", m, api.Turn{Budget: budget}, want, api.OK)
		if n := m.Bus().Cycle(); n != want {
			t.Errorf("P12.6: behind Play(%d): cycle %d", budget, n)
		}
	}
	m := begun(t, console())
	plays(t, "P12.6: a new machine", m, api.Turn{Budget: 1}, 7, api.OK)
	plays(t, "P12.6: and on", m, api.Turn{Budget: 1}, 2, api.OK)
	m = at(t, console(0x8d, 0x14, 0x40), as) // DMA cycles are boundaries, so that a turn may end between them
	plays(t, "P12.6: DMA", m, api.Turn{Budget: 5}, 5, api.OK)
	plays(t, "P12.6: DMA", m, api.Turn{Budget: 100}, 100, api.OK)
	m = at(t, console(), func(s *api.State) { s.Cpu.Take = api.TakeIrq })
	plays(t, "P12.6: an entry", m, api.Turn{Budget: 2}, 7, api.OK)
	m = at(t, console(), func(s *api.State) { s.Cpu.Jam = true })
	plays(t, "P12.6: a jammed CPU", m, api.Turn{Budget: 12345}, 12345, api.OK)
}

// Each turn ends less than eight cycles behind its budget; turns one behind the other, those of the stepper, and Steps are one and the same way. A flush is nothing.
func TestTurnsAddUp(t *testing.T) {
	for _, c := range carts() {
		p, plain := both(t, c), begun(t, c)
		for i := range 200 {
			turn := api.Turn{Budget: uint32(i), One: uint8(3 * i), Two: uint8(7 * i), Reset: i%50 == 49, Flush: i%2 == 0}
			n, e := p.m.Play(turn)
			if k, e2 := p.x.Play(turn); e != api.OK || n < i || n >= i+8 || n != k || e != e2 {
				t.Fatalf("P12.6: Play(%d) = %d, %d, the stepper's %d, %d", i, n, e, k, e2)
			}
			p.agree("behind a turn")
			if turn.Reset {
				plain.Reset()
			}
			plain.Press(turn.One, turn.Two)
			for done := 0; done < i; {
				done += plain.Step()
			}
			same(t, "P12.6: a turn and its Steps", p.m.State(), plain.State())
		}
	}
}

// The pads, from the turn's first cycle on.
func TestPlayHoldsPads(t *testing.T) {
	// STX $4016 (strobe up), LDA $4016: bit 0 of what is held; then of pad 1.
	c := console(0x8e, 0x16, 0x40, 0xad, 0x16, 0x40, 0xac, 0x17, 0x40)
	m := at(t, c, func(s *api.State) { s.Cpu.Regs.X = 1 })
	plays(t, "P12.6", m, api.Turn{Budget: 8, One: 0x81, Two: 0x42}, 8, api.OK)
	if s := m.State(); s.Mem.Pads.Held != [2]uint8{0x81, 0x42} || s.Cpu.Regs.A&1 != 1 {
		t.Errorf("P12.6: the pads: %+v, A %#x", s.Mem.Pads, s.Cpu.Regs.A)
	}
	plays(t, "P12.6", m, api.Turn{Budget: 0, One: 0x02, Two: 0x03}, 0, api.OK)
	if p := m.State().Mem.Pads; p.Held != [2]uint8{0x02, 0x03} {
		t.Errorf("P12.6: the pads of an empty turn: %+v", p)
	}
	steps(t, "P12.6: LDY $4017", m, 4)
	if y := m.Cpu().Regs.Y; y&1 != 1 {
		t.Errorf("P12.6: pad 1: Y %#x", y)
	}
}

// The reset button: what the bus does, Take 3; registers, memories and the cycle counter stay.
func TestReset(t *testing.T) {
	for _, c := range carts() {
		m := begun(t, c)
		m.Play(api.Turn{Budget: 3000})
		was := m.State()
		b, _ := bus.From(c, was.Mem)
		b.Reset()
		if e := m.Reset(); e != api.OK {
			t.Fatalf("P12.6: Reset: %d", e)
		}
		want := api.State{Cpu: api.Cpu{Regs: was.Cpu.Regs, Take: api.TakeReset}, Mem: b.Mem()}
		same(t, "P12.6: the reset button", m.State(), want)
		if want.Mem.Cycle != was.Mem.Cycle || want.Mem.Ram != was.Mem.Ram || want.Mem.Work != was.Mem.Work {
			t.Error("P12.6: the reset button: a memory or the cycle counter")
		}
		// A turn with the button is the button and a turn.
		other := from(t, c, was)
		n, _ := other.Play(api.Turn{Budget: 100, One: 1, Two: 2, Reset: true})
		plays(t, "P12.6: behind the button", m, api.Turn{Budget: 100, One: 1, Two: 2}, n, api.OK)
		same(t, "P12.6: a turn with the reset button", m.State(), other.State())
	}
}

// The button goes ahead of what was taken, wakes a jammed CPU, and gives a DMA up; the latch stays.
func TestResetAheadOfAll(t *testing.T) {
	for name, turn := range map[string]func(s *api.State){
		"an NMI and DMA": func(s *api.State) {
			s.Cpu.Take, s.Mem.Nmi, s.Mem.Dma = api.TakeNmi, true, api.Dma{On: true, Page: 2, Step: 100}
		},
		"an IRQ": func(s *api.State) { s.Cpu.Take, s.Mem.Nmi = api.TakeIrq, true },
		"a jam":  func(s *api.State) { s.Cpu.Jam, s.Mem.Nmi = true, true },
	} {
		m := at(t, console(), turn)
		if name != "an IRQ" {
			steps(t, name, m, 1)
		}
		if e := m.Reset(); e != api.OK {
			t.Fatalf("P12.6: Reset of %s: %d", name, e)
		}
		if s := m.State(); s.Cpu.Take != api.TakeReset || s.Cpu.Jam || s.Mem.Dma != (api.Dma{}) || !s.Mem.Nmi {
			t.Errorf("P12.6: Reset of %s: %+v, %+v, latch %v", name, s.Cpu, s.Mem.Dma, s.Mem.Nmi)
		}
		cycle := m.Bus().Cycle()
		steps(t, "P12.3: a reset entry behind "+name, m, 7)
		events(t, "P12.6: a reset entry behind "+name, m, api.Event{Cycle: cycle, Kind: api.EventReset, Vector: 0xfffc})
		takes(t, "P12.4: the instruction behind it", m, api.TakeNmi)
	}
}
