package interp_test

import (
	"testing"

	"tandem/api"
	"tandem/interp"
)

// copying lays 256 bytes in page 2, and A is 2.
func copying(cycle int) func(s *api.State) {
	return func(s *api.State) {
		s.Cpu.Regs.A, s.Mem.Cycle = 2, cycle
		for i := range 256 {
			s.Mem.Ram[0x200+i] = uint8(i)
		}
	}
}

// copied asks for the Steps of a DMA that waits: one cycle each, in which the CPU stays as it is.
func copied(t *testing.T, what string, m *interp.Machine) {
	t.Helper()
	ahead := m.State()
	m.Log()
	n, first := 513, ahead.Mem.Cycle+2
	if ahead.Mem.Cycle%2 == 0 {
		n, first = 514, ahead.Mem.Cycle+3
	}
	for i := range n {
		steps(t, what, m, 1)
		if s := m.State(); s.Cpu != ahead.Cpu || s.Mem.Dma.On != (i < n-1) {
			t.Fatalf("%s: behind cycle %d: %+v, %+v", what, i, s.Cpu, s.Mem.Dma)
		}
	}
	for i, a := range m.Log() {
		if a != (api.Access{Cycle: first + 2*i, Addr: 0x2004, Val: uint8(i), Write: true}) || a.Cycle%2 != 1 {
			t.Fatalf("%s: write %d is %+v", what, i, a)
		}
	}
	for i, v := range m.State().Mem.Video.Oam {
		if want := uint8(i); v != want && (i%4 != 2 || v != want&0xe3) {
			t.Fatalf("%s: Oam[%d] is %#x", what, i, v)
		}
	}
}

// DMA, begun in a cycle of even and of odd number.
func TestDma(t *testing.T) {
	for cycle := range 4 {
		m := at(t, console(0x8d, 0x14, 0x40), copying(cycle))
		steps(t, "P12.3: STA $4014", m, 4)
		copied(t, "P12.3: DMA", m)
		if n := m.Bus().Cycle() - cycle - 4; n != 514-cycle%2 {
			t.Errorf("P12.3: DMA written in cycle %d: %d cycles", cycle+3, n)
		}
		steps(t, "P12.3: what follows", m, 2)
		registers(t, "P12.3: what follows", m, api.Regs{A: 2, S: 0xfd, P: 0x24, PC: 0x8004})
	}
}

// The halt cycle, and the one behind it, read PC.
func TestDmaReadsPC(t *testing.T) {
	for cycle := range 2 {
		m := at(t, console(), func(s *api.State) {
			s.Cpu.Regs.PC, s.Mem.Open, s.Mem.Cycle, s.Mem.Dma = 0x5123, 0x11, cycle, api.Dma{On: true, Page: 2}
		})
		want := []api.Access{{Cycle: cycle, Addr: 0x5123, Val: 0x11}}
		if cycle%2 == 0 {
			want = append(want, api.Access{Cycle: cycle + 1, Addr: 0x5123, Val: 0x11})
		}
		for range want {
			steps(t, "P12.3: DMA", m, 1)
		}
		logs(t, "P12.3: DMA", m, want...)
	}
}

// A Take that stands waits until the copying is over.
func TestDmaAheadOfEntries(t *testing.T) {
	for take, turn := range map[uint8]func(s *api.State){
		api.TakeIrq: func(s *api.State) { high(s); s.Cpu.Regs.P = 0x20 },
		api.TakeNmi: func(s *api.State) { s.Mem.Nmi = true },
	} {
		m := at(t, console(0x8d, 0x14, 0x40), func(s *api.State) { copying(1)(s); turn(s) })
		takes(t, "P12.4: STA $4014", m, take)
		p := m.Cpu().Regs.P
		copied(t, "P12.3: DMA with a Take that stands", m)
		steps(t, "P12.3: the entry behind DMA", m, 7)
		vector := map[uint8]uint16{api.TakeIrq: 0xfffe, api.TakeNmi: 0xfffa}[take]
		events(t, "P12.6: the entry behind DMA", m, api.Event{Cycle: 518, Kind: take, PC: 0x8003, P: p, Vector: vector})
	}
	m := at(t, console(), func(s *api.State) { // a machine may wait for both
		copying(6)(s)
		s.Cpu.Take, s.Mem.Dma = api.TakeReset, api.Dma{On: true, Page: 2}
	})
	copied(t, "P12.3: DMA ahead of a reset entry", m)
	steps(t, "P12.3: a reset entry behind DMA", m, 7)
	events(t, "P12.6: a reset entry behind DMA", m, api.Event{Cycle: 520, Kind: api.EventReset, Vector: 0xfffc})
}

// Nothing is polled in DMA cycles: what comes in them waits for the poll of the next instruction.
func TestDmaIsNotPolled(t *testing.T) {
	for _, k := range []int{3, 4, 5, 100, 500, 516, 517} {
		for take, turn := range map[uint8]func(s *api.State){
			api.TakeIrq: func(s *api.State) { irqIn(s, k); s.Cpu.Regs.P = 0x20 },
			api.TakeNmi: func(s *api.State) { nmiIn(s, k) },
		} {
			m := at(t, console(0x8d, 0x14, 0x40), func(s *api.State) { copying(1)(s); turn(s) })
			takes(t, "P12.4: STA $4014", m, 0)
			copied(t, "P12.3: DMA with an interrupt in it", m)
			takes(t, "P12.4: the instruction behind DMA", m, take)
		}
	}
}

// A second write ahead of the first cycle puts another page in the first one's place: a read-modify-write instruction makes two.
func TestDmaWrittenTwice(t *testing.T) {
	m := at(t, console(0xee, 0x14, 0x40), as) // INC $4014: what it reads is the open bus
	steps(t, "P12.4: INC $4014", m, 6)
	if d := m.State().Mem.Dma; d != (api.Dma{On: true, Page: 0x41}) {
		t.Errorf("P12.4: INC $4014: %+v", d)
	}
}

// A jammed CPU keeps DMA waiting, and goes ahead of it.
func TestJamAheadOfDma(t *testing.T) {
	m := at(t, console(), func(s *api.State) {
		high(s)
		s.Cpu.Jam, s.Mem.Nmi, s.Mem.Dma = true, true, api.Dma{On: true, Page: 3}
	})
	was := m.State()
	for range 100 {
		steps(t, "P12.3: a jammed CPU", m, 1)
	}
	s := m.State()
	if s.Cpu != was.Cpu || !s.Mem.Nmi || s.Mem.Dma != was.Mem.Dma || s.Mem.Open != was.Mem.Open || s.Mem.Cycle != 100 {
		t.Errorf("P12.3: a jammed CPU: %+v, latch %v, %+v, cycle %d", s.Cpu, s.Mem.Nmi, s.Mem.Dma, s.Mem.Cycle)
	}
	logs(t, "P12.3: a jammed CPU", m)
}
