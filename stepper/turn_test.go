package stepper_test

import (
	"testing"

	"tandem/api"
	"tandem/bus"
	"tandem/stepper"
)

// plays asks for what Play answers.
func plays(t *testing.T, what string, m *stepper.Machine, turn api.Turn, want int, wanted api.Errno) {
	t.Helper()
	if n, e := m.Play(turn); n != want || e != wanted {
		t.Errorf("%s: Play(%+v) = %d, %d, want %d, %d", what, turn, n, e, want, wanted)
	}
}

// The budget ends at the first boundary at which it is used up.
func TestPlay(t *testing.T) {
	inc := console(0xfe, 0x00, 0x02, 0xfe, 0x00, 0x02, 0xa5, 0x00, 0x13, 0x10) // 7, 7, 3, 8 cycles
	for budget, want := range map[uint32]int{0: 0, 1: 7, 6: 7, 7: 7, 8: 14, 14: 14, 15: 17, 17: 17, 18: 25, 24: 25, 25: 25, 26: 27} {
		m := at(t, inc, as)
		plays(t, "11.5", m, api.Turn{Budget: budget}, want, api.OK)
		if m.Step() != 0 || m.Mem().Cycle != want {
			t.Errorf("11.5: behind Play(%d): Step() %d, cycle %d", budget, m.Step(), m.Mem().Cycle)
		}
	}
	m := begun(t, console())
	plays(t, "11.5: a new machine", m, api.Turn{Budget: 1}, 7, api.OK)
	plays(t, "11.5: and on", m, api.Turn{Budget: 1}, 2, api.OK)
	m = at(t, console(0x8d, 0x14, 0x40), as) // DMA cycles are boundaries, so that a turn may end between them
	plays(t, "11.5: DMA", m, api.Turn{Budget: 5}, 5, api.OK)
	plays(t, "11.5: DMA", m, api.Turn{Budget: 100}, 100, api.OK)
	m = at(t, console(), func(s *api.State) { s.Cpu.Take = api.TakeIrq })
	plays(t, "11.5: an entry", m, api.Turn{Budget: 2}, 7, api.OK)
}

// Each turn ends less than eight cycles behind its budget, and turns one behind the other are the machine's own way.
func TestTurnsAddUp(t *testing.T) {
	for _, c := range carts() {
		one, two := begun(t, c), begun(t, c)
		done := 0
		for i := range 200 {
			n, e := one.Play(api.Turn{Budget: uint32(i), Flush: i%2 == 0})
			if e != api.OK || n < i || n > i+7 {
				t.Fatalf("11.5: Play(%d) = %d, %d", i, n, e)
			}
			done += n
		}
		two.Run(done)
		if stateOf(t, one) != stateOf(t, two) {
			t.Errorf("11.5: turns of %d cycles and so many Ticks differ", done)
		}
	}
}

// The pads, from the turn's first cycle on.
func TestPlayHoldsPads(t *testing.T) {
	// STX $4016 (strobe up), LDA $4016: bit 0 of what is held; then of pad 1.
	c := console(0x8e, 0x16, 0x40, 0xad, 0x16, 0x40, 0xac, 0x17, 0x40)
	m := at(t, c, func(s *api.State) { s.Cpu.Regs.X = 1 })
	plays(t, "11.5", m, api.Turn{Budget: 8, One: 0x81, Two: 0x42}, 8, api.OK)
	if s := stateOf(t, m); s.Mem.Pads.Held != [2]uint8{0x81, 0x42} || s.Cpu.Regs.A&1 != 1 {
		t.Errorf("11.5: the pads: %+v, A %#x", s.Mem.Pads, s.Cpu.Regs.A)
	}
	plays(t, "11.5", m, api.Turn{Budget: 0, One: 0x02, Two: 0x03}, 0, api.OK)
	if p := m.Mem().Pads; p.Held != [2]uint8{0x02, 0x03} {
		t.Errorf("11.5: the pads of an empty turn: %+v", p)
	}
	ends(m)
	if s := stateOf(t, m); s.Cpu.Regs.Y&1 != 1 {
		t.Errorf("11.5: pad 1: Y %#x", s.Cpu.Regs.Y)
	}
}

// Press at any time, within an instruction too.
func TestPress(t *testing.T) {
	m := at(t, console(0xad, 0x16, 0x40), func(s *api.State) { s.Mem.Pads.Strobe = true })
	for i := range 3 {
		m.Press(uint8(i), 0xff)
		if p := m.Mem().Pads; p.Held != [2]uint8{uint8(i), 0xff} {
			t.Errorf("11.2: Press: %+v", p)
		}
		m.Tick()
	}
	m.Press(1, 0)
	a, _ := m.Tick()
	if a.Addr != 0x4016 || a.Val != 0x41 || m.Step() != 0 {
		t.Errorf("11.2: what is pressed within LDA $4016: %+v", a)
	}
}

// The reset button: what the bus does, Take 3; registers, memories and the cycle counter stay.
func TestReset(t *testing.T) {
	for _, c := range carts() {
		m := begun(t, c)
		m.Run(3000)
		for m.Step() != 0 {
			m.Tick()
		}
		was := stateOf(t, m)
		b, _ := bus.From(c, was.Mem)
		b.Reset()
		if e := m.Reset(); e != api.OK {
			t.Fatalf("11.5: Reset: %d", e)
		}
		s := stateOf(t, m)
		same(t, "the reset button", s.Mem, b.Mem())
		if s.Cpu != (api.Cpu{Regs: was.Cpu.Regs, Take: api.TakeReset}) || s.Mem.Cycle != was.Mem.Cycle || s.Mem.Ram != was.Mem.Ram || s.Mem.Work != was.Mem.Work {
			t.Errorf("the reset button: %+v, was %+v", s.Cpu, was.Cpu)
		}
		// A turn with the button is the button and a turn.
		other := from(t, c, was)
		n, _ := other.Play(api.Turn{Budget: 100, One: 1, Two: 2, Reset: true})
		m.Press(1, 2)
		m.Run(n)
		if stateOf(t, m) != stateOf(t, other) {
			t.Error("11.5: a turn with the reset button")
		}
	}
}

// The button goes ahead of what was taken, and gives a DMA up.
func TestResetAheadOfAll(t *testing.T) {
	m := at(t, console(), func(s *api.State) {
		s.Cpu.Take, s.Mem.Nmi, s.Mem.Dma = api.TakeNmi, true, api.Dma{On: true, Page: 2, Step: 100}
	})
	m.Tick()
	if e := m.Reset(); e != api.OK {
		t.Fatalf("11.5: Reset within DMA: %d", e)
	}
	if s := stateOf(t, m); s.Cpu.Take != api.TakeReset || s.Mem.Dma != (api.Dma{}) || !s.Mem.Nmi {
		t.Errorf("the reset button: Take %d, %+v, latch %v", s.Cpu.Take, s.Mem.Dma, s.Mem.Nmi)
	}
	does(t, "a reset entry", m, rd(0x8000), rd(0x8000), rd(0x1fd), rd(0x1fc), rd(0x1fb), rd(0xfffc), rd(0xfffd))
	takes(t, "the instruction behind it", m, api.TakeNmi)
}

// Every call that asks for a boundary, within an instruction and within each entry.
func TestNotAtABoundary(t *testing.T) {
	for name, m := range kinds(t, func(s *api.State) { s.Mem.Ram[0] = 9 }) {
		for k := 1; k < 7; k++ {
			m.Tick()
			was, step := m.Mem(), m.Step()
			turn := api.Turn{Budget: uint32(k - 1), One: 5, Two: 6, Reset: true, Flush: true}
			plays(t, "11.5: within "+name, m, turn, 0, api.ErrState)
			if e := m.Reset(); e != api.ErrState || step != k || m.Step() != k {
				t.Errorf("11.5: Reset in cycle %d of %s: %d, Step() %d", k, name, e, m.Step())
			}
			if s, ok := m.State(); ok || s != (api.State{}) {
				t.Errorf("11.2: a state in cycle %d of %s", k, name)
			}
			same(t, "11.5: a call that is refused", m.Mem(), was)
		}
		m.Tick()
		if m.Step() != 0 || len(m.Events()) != 1 {
			t.Errorf("11.5: %s is another one behind calls that are refused", name)
		}
	}
	end := at(t, console(0xee, 0x00, 0x02), func(s *api.State) { s.Mem.Cycle = api.MaxCycle - 1 })
	end.Run(3)
	plays(t, "11.5: ErrState goes ahead of ErrArg", end, api.Turn{Budget: 10}, 0, api.ErrState)
}

// Run(n) is n Ticks, if n is not too many.
func TestRun(t *testing.T) {
	for _, c := range carts() {
		one, two := begun(t, c), begun(t, c)
		for n := range 120 {
			one.Run(n)
			for range n {
				two.Tick()
			}
			if one.Step() != two.Step() || one.Mem() != two.Mem() {
				t.Fatalf("11.2: Run(%d): Step() %d, want %d", n, one.Step(), two.Step())
			}
		}
	}
}

func TestRunBounds(t *testing.T) {
	m := at(t, console(0xee, 0x00, 0x02), as)
	m.Tick()
	was := m.Mem()
	for _, n := range []int{0, -1, -1 << 63, 1<<24 + 1, 1 << 25, 1 << 32, 1<<63 - 1} {
		m.Run(n)
		if m.Mem() != was || m.Step() != 1 {
			t.Errorf("11.2: Run(%d) does something", n)
		}
	}
	m.Run(1 << 24)
	if n := m.Mem().Cycle; n != 1<<24+1 {
		t.Errorf("11.2: Run(2^24) goes to cycle %d", n)
	}
}
