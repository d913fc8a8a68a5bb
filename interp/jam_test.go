package interp_test

import (
	"testing"

	"tandem/api"
	"tandem/bus"
)

// jams is the opcodes that jam.
var jams = []uint8{0x02, 0x12, 0x22, 0x32, 0x42, 0x52, 0x62, 0x72, 0x92, 0xb2, 0xd2, 0xf2}

// JAM: one cycle; from then on cycles without an access, in which the devices go on.
func TestJam(t *testing.T) {
	for _, code := range jams {
		c := console(code)
		m := at(t, c, func(s *api.State) { high(s); s.Mem.Nmi, s.Cpu.Regs.P = true, 0x20 })
		steps(t, "P12.3: JAM", m, 1)
		s := m.State()
		if s.Cpu != (api.Cpu{Regs: api.Regs{S: 0xfd, P: 0x20, PC: 0x8000}, Jam: true}) || s.Mem.Open != code {
			t.Errorf("P12.3: JAM leaves %+v", s.Cpu)
		}
		b, _ := bus.From(c, s.Mem)
		for range 500 {
			steps(t, "P12.3: behind JAM", m, 1)
			b.Idle(1)
			same(t, "P12.3: behind JAM", m.State(), api.State{Cpu: s.Cpu, Mem: b.Mem()})
		}
		if now := m.State().Mem; now.Cycle != 501 || now.Raster.Line != 4 || now.Clock.At != 501 || now.Open != code || !now.Nmi {
			t.Errorf("P12.3: behind JAM the devices stand at %+v, %+v", now.Raster, now.Clock)
		}
		logs(t, "P12.3: JAM", m)
		events(t, "P12.3: JAM", m)
	}
}

// The reset button wakes a jammed CPU.
func TestJamAndReset(t *testing.T) {
	for _, code := range jams {
		m := at(t, console(code), as)
		plays(t, "P12.6: into a jam", m, api.Turn{Budget: 100}, 100, api.OK)
		if e := m.Reset(); e != api.OK {
			t.Fatalf("P12.6: Reset: %d", e)
		}
		if c := m.Cpu(); c != (api.Cpu{Regs: api.Regs{S: 0xfd, P: 0x24, PC: 0x8000}, Take: api.TakeReset}) {
			t.Errorf("P12.6: the reset button: %+v", c)
		}
		steps(t, "P12.3: the entry behind a jam", m, 7)
		events(t, "P12.6: the entry behind a jam", m, api.Event{Cycle: 100, Kind: api.EventReset, Vector: 0xfffc})
		steps(t, "P12.3: JAM once more", m, 1, 1)
		plays(t, "P12.6: a turn with the button", m, api.Turn{Budget: 50, Reset: true}, 50, api.OK)
		events(t, "P12.6: a turn with the button", m, api.Event{Cycle: 109, Kind: api.EventReset, Vector: 0xfffc})
	}
}
