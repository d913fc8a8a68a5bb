package stepper_test

import (
	"fmt"
	"testing"

	"tandem/api"
	"tandem/stepper"
)

// entered is the events' kinds of entries, with what they push of P and with their vectors.
var entered = []struct {
	take   uint8
	vector int
	pc     uint16
}{
	{api.TakeIrq, 0xfffe, 0xa000},
	{api.TakeNmi, 0xfffa, 0x9000},
}

// An IRQ or NMI entry.
func TestEntries(t *testing.T) {
	for _, x := range entered {
		for _, p := range []uint8{0x20, 0x24, 0x28, 0xef} {
			what := fmt.Sprintf("an entry with Take %d", x.take)
			m := at(t, console(), func(s *api.State) {
				s.Cpu = api.Cpu{Regs: api.Regs{A: 1, X: 2, Y: 3, S: 0x80, P: p, PC: 0x1234}, Take: x.take}
				s.Mem.Nmi = x.take == api.TakeNmi
				s.Mem.Ram[0x234] = 0x77
				s.Mem.Cycle = 1000
			})
			does(t, what, m, got(0x1234, 0x77), got(0x1234, 0x77), wr(0x180, 0x12), wr(0x17f, 0x34), wr(0x17e, int(p)), got(x.vector, 0), rd(x.vector+1))
			registers(t, what, m, api.Regs{A: 1, X: 2, Y: 3, S: 0x7d, P: p | 0x04, PC: x.pc})
			events(t, what, m, api.Event{Cycle: 1000, Kind: x.take, PC: 0x1234, P: p, Vector: uint16(x.vector)})
			if s := stateOf(t, m); s.Cpu.Take != 0 || s.Mem.Nmi {
				t.Errorf("%s leaves Take %d, the latch %v", what, s.Cpu.Take, s.Mem.Nmi)
			}
		}
	}
}

// BRK.
func TestBrk(t *testing.T) {
	for _, p := range []uint8{0x20, 0x24, 0x28, 0xef} {
		m := at(t, console(0x00, 0x55), func(s *api.State) { s.Cpu.Regs.P, s.Mem.Cycle = p, 50 })
		does(t, "BRK", m, got(0x8000, 0x00), got(0x8001, 0x55), wr(0x1fd, 0x80), wr(0x1fc, 0x02), wr(0x1fb, int(p|0x30)), rd(0xfffe), rd(0xffff))
		registers(t, "BRK", m, api.Regs{S: 0xfa, P: p | 0x04, PC: 0xa000})
		events(t, "BRK", m, api.Event{Cycle: 50, Kind: api.EventBrk, PC: 0x8002, P: p | 0x30, Vector: 0xfffe})
	}
	c := console()
	c.Prg[0x7ffe] = 0x00 // at $FFFE: the address two behind it goes round
	m := at(t, c, func(s *api.State) { s.Cpu.Regs.PC = 0xfffe })
	does(t, "BRK at $FFFE", m, rd(0xfffe), rd(0xffff), wr(0x1fd, 0x00), wr(0x1fc, 0x00), wr(0x1fb, 0x34), rd(0xfffe), rd(0xffff))
}

// A reset entry: nothing is pushed, but S goes down all the same; the latch stays.
func TestResetEntry(t *testing.T) {
	for _, latch := range []bool{false, true} {
		m := at(t, console(), func(s *api.State) {
			s.Cpu = api.Cpu{Regs: api.Regs{A: 1, X: 2, Y: 3, S: 0x40, P: 0xe9, PC: 0x0311}, Take: api.TakeReset}
			s.Mem.Nmi = latch
			for i := range s.Mem.Ram {
				s.Mem.Ram[i] = uint8(i)
			}
			s.Mem.Cycle = 77
		})
		ram := m.Mem().Ram
		does(t, "a reset entry", m, got(0x0311, 0x11), got(0x0311, 0x11), got(0x140, 0x40), got(0x13f, 0x3f), got(0x13e, 0x3e), got(0xfffc, 0x00), got(0xfffd, 0x80))
		registers(t, "a reset entry", m, api.Regs{A: 1, X: 2, Y: 3, S: 0x3d, P: 0xed, PC: 0x8000})
		events(t, "a reset entry", m, api.Event{Cycle: 77, Kind: api.EventReset, Vector: 0xfffc})
		s := stateOf(t, m)
		if s.Cpu.Take != 0 || s.Mem.Nmi != latch || s.Mem.Ram != ram {
			t.Errorf("a reset entry leaves Take %d, the latch %v", s.Cpu.Take, s.Mem.Nmi)
		}
		want := uint8(0)
		if latch {
			want = 2
		}
		takes(t, "the first instruction behind a reset", m, want)
	}
}

// kinds is the four ways to leave, as machines.
func kinds(t *testing.T, turn func(s *api.State)) map[string]*stepper.Machine {
	return map[string]*stepper.Machine{
		"BRK":   at(t, console(0x00), turn),
		"IRQ":   at(t, console(), func(s *api.State) { turn(s); s.Cpu.Take = api.TakeIrq }),
		"NMI":   at(t, console(), func(s *api.State) { turn(s); s.Cpu.Take, s.Mem.Nmi = api.TakeNmi, true }),
		"reset": at(t, console(), func(s *api.State) { turn(s); s.Cpu.Take = api.TakeReset }),
	}
}

// An IRQ that comes in each cycle of an entry or a BRK is not polled, and leads nowhere else; behind it I is set.
func TestIrqInEntries(t *testing.T) {
	for k := range 9 {
		for name, m := range kinds(t, func(s *api.State) { irqIn(s, k); s.Cpu.Regs.P = 0x20 }) {
			what := fmt.Sprintf("an IRQ in cycle %d of %s", k, name)
			takes(t, what, m, 0)
			l := m.Events()
			want := map[string]uint16{"BRK": 0xfffe, "IRQ": 0xfffe, "NMI": 0xfffa, "reset": 0xfffc}[name]
			if len(l) != 1 || l[0].Vector != want {
				t.Errorf("%s: %+v", what, l)
			}
			takes(t, "what follows "+what, m, 0)
		}
	}
}

// Hijack: an NMI that comes in each cycle of an entry or a BRK. By the start of the sixth cycle it turns the vector; later it waits.
func TestNmiInEntries(t *testing.T) {
	for k := range 9 {
		for name, m := range kinds(t, func(s *api.State) { nmiIn(s, k) }) {
			what := fmt.Sprintf("an NMI in cycle %d of %s", k, name)
			l := ends(m)
			e := m.Events()
			if len(e) != 1 || len(l) != 7 {
				t.Fatalf("%s: %+v in %d cycles", what, e, len(l))
			}
			vector, latch := uint16(0xfffe), k >= 5 && k < 7
			switch {
			case name == "reset":
				vector, latch = 0xfffc, k < 7
			case name == "NMI" || k <= 4:
				vector = 0xfffa
			}
			if s := stateOf(t, m); e[0].Vector != vector || l[5].Addr != vector || l[6].Addr != vector+1 || s.Mem.Nmi != latch || s.Cpu.Take != 0 {
				t.Errorf("%s: %+v, the latch %v, Take %d; want vector %#x, latch %v", what, e, s.Mem.Nmi, s.Cpu.Take, vector, latch)
			}
			kind := map[string]uint8{"BRK": api.EventBrk, "IRQ": api.EventIrq, "NMI": api.EventNmi, "reset": api.EventReset}[name]
			pushed := map[string]uint8{"BRK": 0x34, "IRQ": 0x24, "NMI": 0x24}[name]
			if e[0].Kind != kind || e[0].P != pushed || name != "reset" && l[4].Val != pushed {
				t.Errorf("%s: %+v, pushed %#x", what, e, l[4].Val)
			}
			want := uint8(0) // the NOP that follows has two cycles, and is polled behind the first
			if latch || k == 7 {
				want = 2
			}
			takes(t, "what follows "+what, m, want)
		}
	}
}

// A line that stays high brings one NMI; only a new rise brings another.
func TestOneNmiForARise(t *testing.T) {
	m := at(t, console(), func(s *api.State) { nmiIn(s, 3) })
	m.Run(2000)
	if l := m.Events(); len(l) != 1 || l[0].Kind != api.EventNmi {
		t.Errorf("One cycle: %+v", l)
	}
}
