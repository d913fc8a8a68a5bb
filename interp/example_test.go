package interp_test

import (
	"testing"

	"tandem/api"
)

// The chapter's examples, by their numbers.

func TestExample1(t *testing.T) {
	m := begun(t, console())
	steps(t, "example 1", m, 7)
	s := m.State()
	if s.Cpu != (api.Cpu{Regs: api.Regs{S: 0xfd, P: 0x24, PC: 0x8000}}) || s.Cpu != m.Cpu() || s.Mem.Cycle != 7 {
		t.Errorf("example 1: %+v, cycle %d", s.Cpu, s.Mem.Cycle)
	}
	events(t, "example 1", m, api.Event{Cycle: 0, Kind: api.EventReset, PC: 0, P: 0, Vector: 0xfffc})
}

func TestExample2(t *testing.T) {
	m := behindReset(t, 0xa9, 0x05, 0x69, 0x03, 0x85, 0x10)
	steps(t, "example 2", m, 2, 2, 3)
	if s := m.State(); s.Cpu.Regs.A != 8 || s.Mem.Ram[0x10] != 8 || s.Mem.Open != 8 {
		t.Errorf("example 2: A %d, Ram[$10] %d, Open %d", s.Cpu.Regs.A, s.Mem.Ram[0x10], s.Mem.Open)
	}
}

func TestExample3(t *testing.T) {
	m := behindReset(t, 0xbd, 0xff, 0x02)
	turned(m, func(c *api.Cpu) { c.Regs.X = 1 })
	m.Bus().Store(0x0200, 0x11)
	m.Bus().Store(0x0300, 0x22)
	steps(t, "example 3", m, 5)
	if s := m.State(); s.Cpu.Regs.A != 0x22 || s.Mem.Open != 0x22 {
		t.Errorf("example 3: A %#x, Open %#x", s.Cpu.Regs.A, s.Mem.Open)
	}
	// The same two accesses where each of them is logged.
	m = behindReset(t, 0xbd, 0xff, 0x52)
	turned(m, func(c *api.Cpu) { c.Regs.X = 1 })
	steps(t, "example 3", m, 5)
	logs(t, "example 3", m, api.Access{Cycle: 10, Addr: 0x5200, Val: 0x52}, api.Access{Cycle: 11, Addr: 0x5300, Val: 0x52})
}

func TestExample4(t *testing.T) {
	for idle, want := range []int{513, 514} {
		m := behindReset(t, 0x8d, 0x14, 0x40)
		m.Bus().Idle(idle)
		turned(m, func(c *api.Cpu) { c.Regs.A = 2 })
		for i := range 256 {
			m.Bus().Store(0x200+uint16(i), uint8(i)&0xe3)
		}
		steps(t, "example 4", m, 4)
		n := 0
		for ; m.Bus().Dma(); n++ {
			steps(t, "example 4", m, 1)
		}
		if n != want {
			t.Errorf("example 4: %d DMA cycles, want %d", n, want)
		}
		for i, v := range m.State().Mem.Video.Oam {
			if v != uint8(i)&0xe3 {
				t.Fatalf("example 4: Oam[%d] is %d", i, v)
			}
		}
		if l := m.Log(); len(l) != 257 || l[0] != (api.Access{Cycle: 10 + idle, Addr: 0x4014, Val: 2, Write: true}) || l[1].Cycle != 13+2*idle {
			t.Errorf("example 4: %d accesses, %+v", len(l), l[:2])
		}
		steps(t, "example 4: what follows", m, 2)
	}
}

func TestExample5(t *testing.T) {
	m := behindReset(t, 0x00, 0xff)
	steps(t, "example 5", m, 7)
	s := m.State()
	if s.Cpu != (api.Cpu{Regs: api.Regs{S: 0xfa, P: 0x24, PC: 0xa000}}) || s.Mem.Ram[0x1fd] != 0x80 || s.Mem.Ram[0x1fc] != 0x02 || s.Mem.Ram[0x1fb] != 0x34 {
		t.Errorf("example 5: %+v, stack % x", s.Cpu, s.Mem.Ram[0x1fb:0x1fe])
	}
	events(t, "example 5", m, api.Event{Cycle: 7, Kind: api.EventBrk, PC: 0x8002, P: 0x34, Vector: 0xfffe})
}

func TestExample6(t *testing.T) {
	m := behindReset(t, 0x02)
	for range 1000 {
		steps(t, "example 6", m, 1)
		if c := m.Cpu(); !c.Jam || c.Regs.PC != 0x8000 {
			t.Fatalf("example 6: %+v", c)
		}
	}
	if e := m.Reset(); e != api.OK {
		t.Errorf("example 6: Reset: %d", e)
	}
	steps(t, "example 6", m, 7)
	registers(t, "example 6", m, api.Regs{S: 0xfa, P: 0x24, PC: 0x8000})
}

func TestExample7(t *testing.T) {
	m := at(t, console(0x58, 0xea), func(s *api.State) { s.Mem.Clock.Frame, s.Mem.Cycle = true, 7 })
	steps(t, "example 7", m, 2)
	if c := m.Cpu(); c.Take != api.TakeNone || c.Regs.P != 0x20 {
		t.Errorf("example 7: behind CLI: %+v", c)
	}
	steps(t, "example 7", m, 2)
	if c := m.Cpu(); c.Take != api.TakeIrq {
		t.Errorf("example 7: behind NOP: %+v", c)
	}
	steps(t, "example 7", m, 7)
	events(t, "example 7", m, api.Event{Cycle: 11, Kind: api.EventIrq, PC: 0x8002, P: 0x20, Vector: 0xfffe})
	if s := m.State(); s.Cpu.Regs.P != 0x24 || s.Mem.Ram[0x1fb] != 0x20 {
		t.Errorf("example 7: P %#x, pushed %#x", s.Cpu.Regs.P, s.Mem.Ram[0x1fb])
	}
}

func TestExample8(t *testing.T) {
	m := behindReset(t, 0x4c, 0x00, 0x80)
	turned(m, func(c *api.Cpu) { c.Regs.P = 0x20 })
	n := 0
	for ; m.Cpu().Take == api.TakeNone && n < 20000; n++ {
		steps(t, "example 8", m, 3)
	}
	// The sequencer asks when 29828 cycles are done. The JMP that begins with 7 + 3 * 9940 of them done is the first one to be polled behind that.
	if n != 9941 || m.Cpu().Take != api.TakeIrq {
		t.Errorf("example 8: %d JMPs, Take %d", n, m.Cpu().Take)
	}
	steps(t, "example 8", m, 7)
}

func TestExample9(t *testing.T) {
	for budget, want := range map[uint32]int{0: 0, 1: 7, 7: 7, 8: 9} {
		plays(t, "example 9", begun(t, console()), api.Turn{Budget: budget}, want, api.OK)
	}
}

func TestExample10(t *testing.T) {
	m := behindReset(t)
	was := m.State()
	m.SetCpu(api.Cpu{Regs: api.Regs{A: 1}})
	m.SetCpu(api.Cpu{Regs: api.Regs{A: 1, P: 0x20}, Take: api.TakeNmi})
	same(t, "example 10", m.State(), was)
}
