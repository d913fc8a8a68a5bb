package interp_test

import (
	"testing"

	"tandem/api"
	"tandem/interp"
)

// Every method of a machine that nobody made.
func TestNil(t *testing.T) {
	for what, m := range map[string]*interp.Machine{"a nil Machine": nil, "a Machine that nobody made": {}} {
		for range 3 {
			if n := m.Step(); n != 0 {
				t.Errorf("P12.7: Step of %s: %d", what, n)
			}
			if m.Cpu() != (api.Cpu{}) || m.State() != (api.State{}) || m.Bus() != nil {
				t.Errorf("P12.7: Cpu, State or Bus of %s", what)
			}
			plays(t, "P12.7: "+what, m, api.Turn{}, 0, api.OK)
			plays(t, "P12.7: "+what, m, api.Turn{Budget: 1<<32 - 1, One: 1, Reset: true, Flush: true}, 0, api.OK)
			if e := m.Reset(); e != api.OK {
				t.Errorf("P12.7: Reset of %s: %d", what, e)
			}
			if m.Log() != nil || m.Events() != nil {
				t.Errorf("P12.7: Log or Events of %s", what)
			}
			m.SetCpu(api.Cpu{Regs: api.Regs{A: 1, P: 0x20}})
			m.Press(1, 2)
		}
	}
}

// Play just up to MaxCycle, and one more.
func TestPlayToTheEnd(t *testing.T) {
	for _, budget := range []uint32{1, 2, 100, 1<<32 - 1} {
		near := func(s *api.State) { s.Mem.Cycle = api.MaxCycle - int(budget) + 1 }
		m := at(t, console(), near)
		was := m.State()
		plays(t, "P12.6: one more than MaxCycle", m, api.Turn{Budget: budget, One: 1, Two: 2, Reset: true}, 0, api.ErrArg)
		same(t, "P12.6: a turn that is refused", m.State(), was)
		if budget < 1000 {
			m = at(t, console(), func(s *api.State) { near(s); s.Mem.Cycle-- })
			plays(t, "P12.6: up to MaxCycle", m, api.Turn{Budget: budget}, int(budget+budget%2), api.OK)
		}
	}
	m := at(t, console(0x13, 0x10), func(s *api.State) { s.Mem.Cycle = api.MaxCycle - 1 }) // SLO ($10),Y: eight cycles
	plays(t, "P4: the longest instruction", m, api.Turn{Budget: 1}, 8, api.OK)
	if s := m.State(); s.Mem.Cycle != api.EndCycle || s.Cpu.Regs.PC != 0x8002 {
		t.Errorf("P4: it ends in cycle %d", s.Mem.Cycle)
	}
}

// Step just ahead of MaxCycle: what begins is ended.
func TestBegunIsEnded(t *testing.T) {
	for name, turn := range waiting {
		for back := 1; back <= 9; back++ {
			s := standing(t, console(0x13, 0x10), func(s *api.State) { turn(s); s.Mem.Cycle = api.MaxCycle - back })
			p := beside(t, console(0x13, 0x10), s)
			for p.m.Bus().Cycle() < api.MaxCycle {
				if p.step("P4: "+name+" near the end of time") == 0 {
					t.Fatalf("P4: %s stands still in cycle MaxCycle - %d", name, api.MaxCycle-p.m.Bus().Cycle())
				}
			}
			steps(t, "P12.3: "+name+" at the end of time", p.m, 0, 0)
		}
	}
}

// waiting is all that may come next.
var waiting = map[string]func(s *api.State){
	"an instruction": as,
	"a jammed CPU":   func(s *api.State) { s.Cpu.Jam = true },
	"DMA":            func(s *api.State) { s.Mem.Dma = api.Dma{On: true, Page: 2} },
	"an IRQ":         func(s *api.State) { s.Cpu.Take = api.TakeIrq },
	"an NMI":         func(s *api.State) { s.Cpu.Take, s.Mem.Nmi = api.TakeNmi, true },
	"a reset":        func(s *api.State) { s.Cpu.Take = api.TakeReset },
}

// Every call with MaxCycle cycles done, or more: nothing begins any more, whatever waits.
func TestEndOfTime(t *testing.T) {
	for cycle := api.MaxCycle; cycle <= api.EndCycle; cycle++ {
		for name, turn := range waiting {
			m := at(t, console(), func(s *api.State) { turn(s); s.Mem.Cycle = cycle })
			was := m.State()
			steps(t, "P12.3: "+name+" at the end of time", m, 0, 0)
			plays(t, "P12.6: "+name, m, api.Turn{Budget: 1, One: 1, Reset: true}, 0, api.ErrArg)
			want := api.OK
			if cycle > api.MaxCycle {
				want = api.ErrArg
				plays(t, "P12.6: "+name, m, api.Turn{One: 1, Reset: true}, 0, want)
			}
			same(t, "P4: "+name+" at the end of time", m.State(), was)
			plays(t, "P12.6: "+name, m, api.Turn{One: 8, Two: 9}, 0, want)
			if held := m.State().Mem.Pads.Held; (want == api.OK) != (held == [2]uint8{8, 9}) {
				t.Errorf("P12.6: an empty turn with %s at the end of time: %v", name, held)
			}
			m.Press(3, 4)
			if e := m.Reset(); e != api.OK {
				t.Errorf("P12.6: Reset at the end of time: %d", e)
			}
			s := m.State()
			if s.Cpu.Take != api.TakeReset || s.Cpu.Jam || s.Mem.Dma.On || s.Mem.Pads.Held != [2]uint8{3, 4} || s.Mem.Cycle != cycle {
				t.Errorf("P12.6: Press and Reset with %s at the end of time: %+v", name, s.Cpu)
			}
			steps(t, "P12.3: a reset at the end of time", m, 0)
			logs(t, "P12.3: "+name+" at the end of time", m)
			events(t, "P12.3: "+name+" at the end of time", m)
		}
	}
	m := at(t, console(), func(s *api.State) { s.Mem.Cycle = api.MaxCycle })
	plays(t, "P12.6: an empty turn with the button", m, api.Turn{Reset: true}, 0, api.OK)
	if c := m.Cpu(); c.Take != api.TakeReset {
		t.Errorf("P12.6: %+v", c)
	}
}

// A bus that is brought to the end of time by its own calls brings its machine there.
func TestBusAtTheEndOfTime(t *testing.T) {
	m := behindReset(t)
	m.Bus().Idle(api.MaxCycle - 8)
	steps(t, "P12.3: one cycle is left", m, 2, 0)
	m.Bus().Idle(api.EndCycle - m.Bus().Cycle())
	steps(t, "P12.3: none is left", m, 0)
}
