package stepper_test

import (
	"testing"

	"tandem/api"
)

// jams is the opcodes that jam.
var jams = []uint8{0x02, 0x12, 0x22, 0x32, 0x42, 0x52, 0x62, 0x72, 0x92, 0xb2, 0xd2, 0xf2}

// JAM: one cycle; from then on cycles without an access, in which the devices go on.
func TestJam(t *testing.T) {
	for _, code := range jams {
		m := at(t, console(code), func(s *api.State) { high(s); s.Mem.Nmi, s.Cpu.Regs.P = true, 0x20 })
		does(t, "JAM", m, got(0x8000, int(code)))
		s := stateOf(t, m)
		if s.Cpu != (api.Cpu{Regs: api.Regs{S: 0xfd, P: 0x20, PC: 0x8000}, Jam: true}) {
			t.Errorf("JAM leaves %+v", s.Cpu)
		}
		x := tell(t, console(code), s)
		for i := range 500 {
			a, ok := m.Tick()
			x.bus.Idle(1)
			if ok || a != (api.Access{}) || m.Step() != 0 {
				t.Fatalf("JAM: cycle %d behind it: %+v, %v", i, a, ok)
			}
			now := stateOf(t, m)
			if now.Cpu != s.Cpu {
				t.Fatalf("JAM: cycle %d behind it: %+v", i, now.Cpu)
			}
			same(t, "JAM: the devices", now.Mem, x.bus.Mem())
		}
		if now := m.Mem(); now.Cycle != 501 || now.Raster.Line != 4 || now.Clock.At != 501 || now.Open != code || !now.Nmi {
			t.Errorf("JAM: the devices stand at %+v, %+v", now.Raster, now.Clock)
		}
		if l, k := m.Log(), m.Events(); len(l) != 0 || len(k) != 0 {
			t.Errorf("JAM: %v, %v", l, k)
		}
	}
}

// Latch, level and DMA go on waiting, however long.
func TestJamKeepsAllWaiting(t *testing.T) {
	m := at(t, console(), func(s *api.State) {
		high(s)
		s.Cpu.Jam, s.Mem.Nmi, s.Mem.Dma = true, true, api.Dma{On: true, Page: 3}
	})
	m.Run(100000)
	s := stateOf(t, m)
	if !s.Cpu.Jam || s.Cpu.Take != 0 || !s.Mem.Nmi || s.Mem.Dma != (api.Dma{On: true, Page: 3}) || s.Mem.Cycle != 100000 {
		t.Errorf("JAM: %+v, latch %v, %+v, cycle %d", s.Cpu, s.Mem.Nmi, s.Mem.Dma, s.Mem.Cycle)
	}
	if n, e := m.Play(api.Turn{Budget: 12345}); n != 12345 || e != api.OK {
		t.Errorf("11.5: Play of a jammed CPU: %d, %d", n, e)
	}
}

// The reset button wakes a jammed CPU.
func TestJamAndReset(t *testing.T) {
	for _, code := range jams {
		c := console(code)
		m := at(t, c, func(s *api.State) { s.Mem.Nmi = true })
		m.Run(100)
		if e := m.Reset(); e != api.OK {
			t.Fatalf("11.5: Reset: %d", e)
		}
		if s := stateOf(t, m); s.Cpu.Jam || s.Cpu.Take != api.TakeReset || s.Cpu.Regs.PC != 0x8000 {
			t.Errorf("the reset button: %+v", s.Cpu)
		}
		does(t, "the entry behind a jam", m, rd(0x8000), rd(0x8000), rd(0x1fd), rd(0x1fc), rd(0x1fb), rd(0xfffc), rd(0xfffd))
		events(t, "the entry behind a jam", m, api.Event{Cycle: 100, Kind: api.EventReset, Vector: 0xfffc})
		does(t, "JAM once more", m, rd(0x8000))
	}
	m := at(t, console(0x02), as)
	if n, e := m.Play(api.Turn{Budget: 50}); n != 50 || e != api.OK {
		t.Errorf("11.5: Play into a jam: %d, %d", n, e)
	}
	if n, e := m.Play(api.Turn{Budget: 50, Reset: true}); n != 50 || e != api.OK || len(m.Events()) != 1 {
		t.Errorf("11.5: Play with a reset of a jammed CPU: %d, %d", n, e)
	}
}
