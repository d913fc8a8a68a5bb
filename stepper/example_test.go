package stepper_test

import (
	"testing"

	"tandem/api"
)

// The chapter's examples, by their numbers.

func TestExample1(t *testing.T) {
	for _, c := range append(carts(), half(), console()) {
		m := begun(t, c)
		does(t, "11.7, 1", m, rd(0), rd(0), rd(0x100), rd(0x1ff), rd(0x1fe), rd(0xfffc), rd(0xfffd))
		last := len(c.Prg) - 4
		if c.Mapper == api.AxROM { // its last bank is not there at first
			last = 0x7ffc
		}
		registers(t, "11.7, 1", m, api.Regs{S: 0xfd, P: 0x24, PC: uint16(c.Prg[last]) + 256*uint16(c.Prg[last+1])})
		events(t, "11.7, 1", m, api.Event{Kind: api.EventReset, Vector: 0xfffc})
	}
}

func TestExample2(t *testing.T) {
	m := at(t, half(0xa2, 0x01, 0xbd, 0xff, 0x02), as)
	does(t, "11.7, 2", m, rd(0x8000), rd(0x8001))
	does(t, "11.7, 2", m, rd(0x8002), rd(0x8003), rd(0x8004), rd(0x0200), rd(0x0300))
}

func TestExample3(t *testing.T) {
	m := at(t, half(0xfe, 0x00, 0x02), func(s *api.State) { s.Mem.Ram[0x200] = 0x29 })
	does(t, "11.7, 3", m, rd(0x8000), rd(0x8001), rd(0x8002), rd(0x0200), rd(0x0200), wr(0x0200, 0x29), wr(0x0200, 0x2a))
}

func TestExample4(t *testing.T) {
	c := half()
	copy(c.Prg[0xfe:], []byte{0xd0, 0xfe})
	m := at(t, c, func(s *api.State) { s.Cpu.Regs.PC = 0x80fe })
	does(t, "11.7, 4", m, rd(0x80fe), rd(0x80ff), rd(0x8100), rd(0x81fe))
	registers(t, "11.7, 4", m, api.Regs{S: 0xfd, P: 0x24, PC: 0x80fe})
}

func TestExample5(t *testing.T) {
	m := at(t, half(0x6c, 0xff, 0x10), func(s *api.State) { s.Mem.Ram[0xff], s.Mem.Ram[0], s.Mem.Ram[0x100] = 0x21, 0x43, 0x65 })
	does(t, "11.7, 5", m, rd(0x8000), rd(0x8001), rd(0x8002), rd(0x10ff), rd(0x1000))
	registers(t, "11.7, 5", m, api.Regs{S: 0xfd, P: 0x24, PC: 0x4321})
}

func TestExample6(t *testing.T) {
	m := at(t, half(0x20, 0x34, 0x12), as)
	does(t, "11.7, 6", m, rd(0x8000), rd(0x8001), rd(0x01fd), wr(0x01fd, 0x80), wr(0x01fc, 0x02), rd(0x8002))
	registers(t, "11.7, 6", m, api.Regs{S: 0xfb, P: 0x24, PC: 0x1234})
	m = at(t, half(), func(s *api.State) {
		s.Cpu.Regs.PC, s.Cpu.Regs.S = 0x01fd, 0xff
		copy(s.Mem.Ram[0x1fd:], []byte{0x20, 0x34, 0x12})
	})
	does(t, "11.7, 6", m, rd(0x01fd), rd(0x01fe), rd(0x01ff), wr(0x01ff, 0x01), wr(0x01fe, 0xff), got(0x01ff, 0x01))
	registers(t, "11.7, 6", m, api.Regs{S: 0xfd, P: 0x24, PC: 0x0134})
}

func TestExample7(t *testing.T) {
	m := at(t, half(0x02), as)
	does(t, "11.7, 7", m, rd(0x8000))
	for range 1000 {
		if a, ok := m.Tick(); ok || a != (api.Access{}) || m.Step() != 0 {
			t.Fatalf("11.7, 7: %+v", a)
		}
	}
	if s := stateOf(t, m); s.Cpu.Regs.PC != 0x8000 || s.Mem.Cycle != 1001 || s.Mem.Clock.At != 1001 {
		t.Errorf("11.7, 7: PC %#x, cycle %d", s.Cpu.Regs.PC, s.Mem.Cycle)
	}
	m.Reset()
	does(t, "11.7, 7", m, rd(0x8000), rd(0x8000), rd(0x1fd), rd(0x1fc), rd(0x1fb), rd(0xfffc), rd(0xfffd))
}

func TestExample8(t *testing.T) {
	for cycle, want := range []int{514, 513} {
		m := at(t, half(0x8d, 0x14, 0x40), func(s *api.State) { s.Cpu.Regs.A, s.Mem.Cycle = 2, cycle })
		does(t, "11.7, 8", m, rd(0x8000), rd(0x8001), rd(0x8002), wr(0x4014, 2))
		n := 0
		for m.Mem().Dma.On && n < 1000 {
			if a, ok := m.Tick(); n == 0 && (!ok || a.Addr != 0x8003 || a.Cycle%2 != cycle) {
				t.Errorf("11.7, 8: the halt cycle is %+v", a)
			}
			n++
		}
		if n != want {
			t.Errorf("11.7, 8: %d DMA cycles, want %d", n, want)
		}
	}
}

func TestExample9(t *testing.T) {
	m := at(t, half(0x58, 0xea), high)
	takes(t, "11.7, 9: CLI", m, 0)
	takes(t, "11.7, 9: what follows", m, 1)
}

func TestExample10(t *testing.T) {
	m := at(t, half(0x00), func(s *api.State) { nmiIn(s, 3) })
	does(t, "11.7, 10", m, rd(0x8000), rd(0x8001), wr(0x1fd, 0x80), wr(0x1fc, 0x02), wr(0x1fb, 0x34), rd(0xfffa), rd(0xfffb))
	events(t, "11.7, 10", m, api.Event{Kind: api.EventBrk, PC: 0x8002, P: 0x34, Vector: 0xfffa})
	m.Run(200)
	events(t, "11.7, 10: no NMI entry comes", m)
}
