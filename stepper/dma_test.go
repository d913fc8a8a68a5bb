package stepper_test

import (
	"testing"

	"tandem/api"
	"tandem/stepper"
)

// copying lays 256 bytes in page 2, and A is 2.
func copying(cycle int) func(s *api.State) {
	return func(s *api.State) {
		s.Cpu.Regs.A, s.Mem.Cycle = 2, cycle
		for i := range 256 {
			s.Mem.Ram[0x200+i] = uint8(i)
		}
	}
}

// copied asks for the cycles of a DMA that waits, and that each is one between boundaries.
func copied(t *testing.T, what string, m *stepper.Machine, page int) {
	t.Helper()
	ahead := stateOf(t, m)
	pc := int(ahead.Cpu.Regs.PC)
	want := []touch{rd(pc)}
	if ahead.Mem.Cycle%2 == 0 {
		want = append(want, rd(pc))
	}
	for i := range 256 {
		want = append(want, got(256*page+i, i), wr(0x2004, i))
	}
	for i, w := range want {
		a, ok := m.Tick()
		if !ok || !w.fits(a) || a.Cycle != ahead.Mem.Cycle+i {
			t.Fatalf("%s: cycle %d is %+v, want %+v", what, i, a, w)
		}
		if w.addr >= 0x200 && w.addr < 0x300 && a.Cycle%2 != 0 || w.write && a.Cycle%2 != 1 {
			t.Fatalf("%s: %+v in such a cycle", what, a)
		}
		if s := stateOf(t, m); m.Step() != 0 || s.Cpu != ahead.Cpu || s.Mem.Dma.On != (i < len(want)-1) {
			t.Fatalf("%s: behind cycle %d: Step() %d, %+v, %+v", what, i, m.Step(), s.Cpu, s.Mem.Dma)
		}
	}
	for i, v := range m.Mem().Video.Oam {
		if want := uint8(i); v != want && (i%4 != 2 || v != want&0xe3) {
			t.Fatalf("%s: Oam[%d] is %#x", what, i, v)
		}
	}
}

// DMA, begun in a cycle of even and of odd number.
func TestDma(t *testing.T) {
	for cycle := range 4 {
		m := at(t, console(0x8d, 0x14, 0x40), copying(cycle))
		does(t, "DMA: STA $4014", m, rd(0x8000), rd(0x8001), rd(0x8002), wr(0x4014, 2))
		copied(t, "DMA", m, 2)
		if n := m.Mem().Cycle - cycle - 4; n != 514-cycle%2 {
			t.Errorf("DMA: written in cycle %d: %d cycles", cycle+3, n)
		}
		does(t, "DMA: what follows", m, rd(0x8003), rd(0x8004))
	}
}

// A DMA that goes on from a state in its middle is the same one.
func TestDmaGoesOn(t *testing.T) {
	c := console(0x8d, 0x14, 0x40)
	m := at(t, c, copying(1))
	ends(m)
	for range 513 {
		other := from(t, c, stateOf(t, m))
		a, _ := m.Tick()
		if b, _ := other.Tick(); a != b || stateOf(t, m) != stateOf(t, other) {
			t.Fatalf("DMA: %+v, from a state %+v", a, b)
		}
	}
}

// A Take that stands waits until the copying is over.
func TestDmaAheadOfEntries(t *testing.T) {
	for take, turn := range map[uint8]func(s *api.State){
		api.TakeIrq: func(s *api.State) { high(s); s.Cpu.Regs.P = 0x20 },
		api.TakeNmi: func(s *api.State) { s.Mem.Nmi = true },
	} {
		m := at(t, console(0x8d, 0x14, 0x40), func(s *api.State) { copying(1)(s); turn(s) })
		takes(t, "DMA: STA $4014", m, take)
		copied(t, "DMA with a Take that stands", m, 2)
		l := ends(m)
		if e := m.Events(); len(l) != 7 || len(e) != 1 || e[0].Kind != take || e[0].PC != 0x8003 || e[0].Cycle != 518 {
			t.Errorf("DMA: the entry behind it: %+v", e)
		}
	}
	m := at(t, console(), func(s *api.State) { // a new machine may wait for both
		copying(6)(s)
		s.Cpu.Take, s.Mem.Dma = api.TakeReset, api.Dma{On: true, Page: 2}
	})
	copied(t, "DMA ahead of a reset entry", m, 2)
	does(t, "a reset entry behind DMA", m, rd(0x8000), rd(0x8000), rd(0x1fd), rd(0x1fc), rd(0x1fb), rd(0xfffc), rd(0xfffd))
}

// Nothing is polled in DMA cycles: what comes in them waits for the poll of the next instruction.
func TestDmaIsNotPolled(t *testing.T) {
	for _, k := range []int{3, 4, 5, 100, 500, 516, 517} {
		for take, turn := range map[uint8]func(s *api.State){
			api.TakeIrq: func(s *api.State) { irqIn(s, k); s.Cpu.Regs.P = 0x20 },
			api.TakeNmi: func(s *api.State) { nmiIn(s, k) },
		} {
			m := at(t, console(0x8d, 0x14, 0x40), func(s *api.State) { copying(1)(s); turn(s) })
			takes(t, "DMA: STA $4014", m, 0)
			copied(t, "DMA with an interrupt in it", m, 2)
			does(t, "the instruction behind DMA", m, rd(0x8003), rd(0x8004))
			if s := stateOf(t, m); s.Cpu.Take != take {
				t.Errorf("DMA: an interrupt in cycle %d: Take is %d behind the next instruction, want %d", k, s.Cpu.Take, take)
			}
		}
	}
}

// A second write ahead of the first cycle puts another page in the first one's place: a read-modify-write instruction makes two.
func TestDmaWrittenTwice(t *testing.T) {
	m := at(t, console(0xee, 0x14, 0x40), as) // INC $4014: what it reads is the open bus
	does(t, "DMA: INC $4014", m, rd(0x8000), rd(0x8001), rd(0x8002), got(0x4014, 0x40), wr(0x4014, 0x40), wr(0x4014, 0x41))
	if d := m.Mem().Dma; d != (api.Dma{On: true, Page: 0x41}) {
		t.Errorf("DMA: %+v", d)
	}
	for i, w := range []touch{rd(0x8003), rd(0x8003), rd(0x4100), wr(0x2004, 0xea), rd(0x4101), wr(0x2004, 0xea)} {
		if a, _ := m.Tick(); !w.fits(a) {
			t.Errorf("DMA: cycle %d of the second page is %+v, want %+v", i, a, w)
		}
	}
}

// What DMA reads and writes is logged where it is a device's; reads of the ports do what they always do.
func TestDmaOfDevices(t *testing.T) {
	m := at(t, console(0x8d, 0x14, 0x40), func(s *api.State) {
		s.Cpu.Regs.A = 0x20
		s.Mem.Raster = api.Raster{Line: 245, Vbl: true}
		s.Mem.Video.V = 0x2000
	})
	ends(m)
	m.Run(514)
	s := stateOf(t, m)
	if s.Mem.Dma.On || s.Mem.Raster.Vbl || s.Mem.Video.V != 0x2000+32 {
		t.Errorf("DMA of $2000: %+v, V %#x", s.Mem.Dma, s.Mem.Video.V)
	}
	if l := m.Log(); len(l) != 1+512 || l[0].Addr != 0x4014 || l[1].Addr != 0x2000 || l[512].Addr != 0x2004 {
		t.Errorf("Logs: %d accesses", len(l))
	}
	m = at(t, console(0x8d, 0x14, 0x40), copying(0))
	ends(m)
	m.Run(514)
	if l := m.Log(); len(l) != 1+256 {
		t.Errorf("Logs: %d accesses, want the writes alone", len(l))
	}
}
