package stepper_test

import (
	"testing"

	"tandem/api"
	"tandem/stepper"
)

// Every method of a machine that nobody made.
func TestNil(t *testing.T) {
	for what, m := range map[string]*stepper.Machine{"a nil Machine": nil, "a Machine that nobody made": {}} {
		if a, ok := m.Tick(); ok || a != (api.Access{}) {
			t.Errorf("11.5: Tick of %s", what)
		}
		m.Run(1)
		m.Run(100)
		m.Press(1, 2)
		if s, ok := m.State(); ok || s != (api.State{}) {
			t.Errorf("11.5: State of %s", what)
		}
		if m.Step() != 0 || m.Mem() != (api.Mem{}) {
			t.Errorf("11.5: Step or Mem of %s", what)
		}
		plays(t, "11.5: "+what, m, api.Turn{}, 0, api.OK)
		plays(t, "11.5: "+what, m, api.Turn{Budget: 1<<32 - 1, One: 1, Reset: true, Flush: true}, 0, api.OK)
		if e := m.Reset(); e != api.OK {
			t.Errorf("11.5: Reset of %s: %d", what, e)
		}
		if m.Log() != nil || m.Events() != nil {
			t.Errorf("11.5: Log or Events of %s", what)
		}
	}
}

// Play just up to MaxCycle, and one more.
func TestPlayToTheEnd(t *testing.T) {
	for _, budget := range []uint32{1, 2, 100, 1<<32 - 1} {
		near := func(s *api.State) { s.Mem.Cycle = api.MaxCycle - int(budget) + 1 }
		m := at(t, console(), near)
		was := stateOf(t, m)
		plays(t, "11.5: one more than MaxCycle", m, api.Turn{Budget: budget, One: 1, Two: 2, Reset: true}, 0, api.ErrArg)
		if stateOf(t, m) != was {
			t.Error("11.5: a turn that is refused does something")
		}
		if budget < 1000 {
			m = at(t, console(), func(s *api.State) { near(s); s.Mem.Cycle-- })
			plays(t, "11.5: up to MaxCycle", m, api.Turn{Budget: budget}, int(budget+budget%2), api.OK)
		}
	}
	m := at(t, console(0x13, 0x10), func(s *api.State) { s.Mem.Cycle = api.MaxCycle - 1 }) // SLO ($10),Y: eight cycles
	plays(t, "P4: the longest instruction", m, api.Turn{Budget: 1}, 8, api.OK)
	if s := stateOf(t, m); s.Mem.Cycle != api.EndCycle || s.Cpu.Regs.PC != 0x8002 {
		t.Errorf("P4: it ends in cycle %d", s.Mem.Cycle)
	}
}

// What has begun ahead of MaxCycle is ended, by Tick and by Run.
func TestBegunIsEnded(t *testing.T) {
	for name, one := range kinds(t, func(s *api.State) { s.Mem.Cycle = api.MaxCycle - 1 }) {
		two := kinds(t, func(s *api.State) { s.Mem.Cycle = api.MaxCycle - 1 })[name]
		for i := range 7 {
			if a, ok := one.Tick(); !ok || a.Cycle != api.MaxCycle-1+i {
				t.Fatalf("P4: cycle %d of %s: %+v, %v", i, name, a, ok)
			}
		}
		two.Run(100)
		if stateOf(t, one) != stateOf(t, two) || one.Mem().Cycle != api.MaxCycle+6 || len(two.Events()) != 1 {
			t.Errorf("P4: Run over the end of %s: cycle %d", name, two.Mem().Cycle)
		}
	}
}

// Every call with MaxCycle cycles done, or more: at a boundary nothing begins any more, whatever waits.
func TestEndOfTime(t *testing.T) {
	waiting := map[string]func(s *api.State){
		"an instruction": as,
		"a jammed CPU":   func(s *api.State) { s.Cpu.Jam = true },
		"DMA":            func(s *api.State) { s.Mem.Dma = api.Dma{On: true, Page: 2} },
		"an IRQ":         func(s *api.State) { s.Cpu.Take = api.TakeIrq },
		"an NMI":         func(s *api.State) { s.Cpu.Take, s.Mem.Nmi = api.TakeNmi, true },
		"a reset":        func(s *api.State) { s.Cpu.Take = api.TakeReset },
	}
	for cycle := api.MaxCycle; cycle <= api.EndCycle; cycle++ {
		for name, turn := range waiting {
			m := at(t, console(), func(s *api.State) { turn(s); s.Mem.Cycle = cycle })
			was := stateOf(t, m)
			if a, ok := m.Tick(); ok || a != (api.Access{}) {
				t.Errorf("P4: Tick with %s at the end of time: %+v", name, a)
			}
			m.Run(1)
			m.Run(1 << 24)
			plays(t, "P4: "+name, m, api.Turn{Budget: 1, One: 1, Reset: true}, 0, api.ErrArg)
			want := api.OK
			if cycle > api.MaxCycle {
				want = api.ErrArg
				plays(t, "P4: "+name, m, api.Turn{One: 1, Reset: true}, 0, want)
			}
			if stateOf(t, m) != was || m.Step() != 0 || m.Mem() != was.Mem {
				t.Errorf("P4: %s goes on at the end of time", name)
			}
			plays(t, "P4: "+name, m, api.Turn{One: 8, Two: 9}, 0, want)
			if held := m.Mem().Pads.Held; (want == api.OK) != (held == [2]uint8{8, 9}) {
				t.Errorf("P4: an empty turn with %s at the end of time: %v", name, held)
			}
			m.Press(3, 4)
			if e := m.Reset(); e != api.OK {
				t.Errorf("11.5: Reset at the end of time: %d", e)
			}
			s := stateOf(t, m)
			if s.Cpu.Take != api.TakeReset || s.Cpu.Jam || s.Mem.Dma.On || s.Mem.Pads.Held != [2]uint8{3, 4} || s.Mem.Cycle != cycle {
				t.Errorf("11.5: Press and Reset with %s at the end of time: %+v", name, s.Cpu)
			}
			if a, ok := m.Tick(); ok || a != (api.Access{}) || len(m.Log()) != 0 || len(m.Events()) != 0 {
				t.Errorf("P4: a reset at the end of time begins: %+v", a)
			}
		}
	}
	m := at(t, console(), func(s *api.State) { s.Mem.Cycle = api.MaxCycle })
	plays(t, "P4: an empty turn with the button", m, api.Turn{Reset: true}, 0, api.OK)
	if s := stateOf(t, m); s.Cpu.Take != api.TakeReset {
		t.Errorf("11.5: %+v", s.Cpu)
	}
}

// A jammed CPU and a DMA stand still just at MaxCycle.
func TestSingleCyclesToTheEnd(t *testing.T) {
	for name, turn := range map[string]func(s *api.State){
		"a jammed CPU": func(s *api.State) { s.Cpu.Jam = true },
		"DMA":          func(s *api.State) { s.Mem.Dma = api.Dma{On: true, Page: 2} },
	} {
		m := at(t, console(), func(s *api.State) { turn(s); s.Mem.Cycle = api.MaxCycle - 10 })
		m.Run(7)
		plays(t, "P4: "+name, m, api.Turn{Budget: 4}, 0, api.ErrArg)
		plays(t, "P4: "+name, m, api.Turn{Budget: 2}, 2, api.OK)
		m.Run(100)
		if n := m.Mem().Cycle; n != api.MaxCycle {
			t.Errorf("P4: %s goes on to cycle %d", name, n)
		}
	}
}
