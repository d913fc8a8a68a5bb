package interp_test

import (
	"fmt"
	"testing"

	"tandem/api"
	"tandem/interp"
)

// An IRQ or NMI entry: what it pushes, where it leads, what it tells.
func TestEntries(t *testing.T) {
	for _, x := range []struct {
		take       uint8
		vector, pc uint16
	}{{api.TakeIrq, 0xfffe, 0xa000}, {api.TakeNmi, 0xfffa, 0x9000}} {
		for _, p := range []uint8{0x20, 0x24, 0x28, 0xef} {
			what := fmt.Sprintf("P12.3: an entry with Take %d", x.take)
			m := at(t, console(), func(s *api.State) {
				s.Cpu = api.Cpu{Regs: api.Regs{A: 1, X: 2, Y: 3, S: 0x80, P: p, PC: 0x5234}, Take: x.take}
				s.Mem.Nmi, s.Mem.Open, s.Mem.Cycle = x.take == api.TakeNmi, 0x77, 1000
			})
			steps(t, what, m, 7)
			registers(t, what, m, api.Regs{A: 1, X: 2, Y: 3, S: 0x7d, P: p | 0x04, PC: x.pc})
			events(t, what, m, api.Event{Cycle: 1000, Kind: x.take, PC: 0x5234, P: p, Vector: x.vector})
			logs(t, what, m, api.Access{Cycle: 1000, Addr: 0x5234, Val: 0x77}, api.Access{Cycle: 1001, Addr: 0x5234, Val: 0x77})
			stores(t, what, m, 0x180, 0x17f, 0x17e)
			s := m.State()
			if s.Cpu.Take != 0 || s.Cpu.Jam || s.Mem.Nmi || s.Mem.Ram[0x180] != 0x52 || s.Mem.Ram[0x17f] != 0x34 || s.Mem.Ram[0x17e] != p {
				t.Errorf("%s leaves %+v, the latch %v, the stack % x", what, s.Cpu, s.Mem.Nmi, s.Mem.Ram[0x17e:0x181])
			}
		}
	}
}

// BRK.
func TestBrk(t *testing.T) {
	for _, p := range []uint8{0x20, 0x24, 0x28, 0xef} {
		m := at(t, console(0x00, 0x55), func(s *api.State) { s.Cpu.Regs.P, s.Mem.Cycle = p, 50 })
		steps(t, "P12.4: BRK", m, 7)
		registers(t, "P12.4: BRK", m, api.Regs{S: 0xfa, P: p | 0x04, PC: 0xa000})
		events(t, "P12.6: BRK", m, api.Event{Cycle: 50, Kind: api.EventBrk, PC: 0x8002, P: p | 0x30, Vector: 0xfffe})
	}
	c := console()
	c.Prg[0x7ffe] = 0x00 // at $FFFE: the address two behind it goes round
	m := at(t, c, func(s *api.State) { s.Cpu.Regs.PC, s.Mem.Ram[0x1fd], s.Mem.Ram[0x1fc] = 0xfffe, 9, 9 })
	steps(t, "P12.4: BRK at $FFFE", m, 7)
	events(t, "P12.6: BRK at $FFFE", m, api.Event{Kind: api.EventBrk, PC: 0, P: 0x34, Vector: 0xfffe})
	if r := m.State().Mem.Ram; r[0x1fd] != 0 || r[0x1fc] != 0 {
		t.Errorf("P12.4: BRK at $FFFE pushes % x", r[0x1fb:0x1fe])
	}
}

// A reset entry: nothing is pushed, but S goes down all the same; the latch stays.
func TestResetEntry(t *testing.T) {
	for _, latch := range []bool{false, true} {
		m := at(t, console(), func(s *api.State) {
			s.Cpu = api.Cpu{Regs: api.Regs{A: 1, X: 2, Y: 3, S: 0x40, P: 0xe9, PC: 0x5311}, Take: api.TakeReset}
			s.Mem.Nmi, s.Mem.Open, s.Mem.Cycle = latch, 0x66, 77
			for i := range s.Mem.Ram {
				s.Mem.Ram[i] = uint8(i)
			}
		})
		ram := m.State().Mem.Ram
		steps(t, "P12.3: a reset entry", m, 7)
		registers(t, "P12.3: a reset entry", m, api.Regs{A: 1, X: 2, Y: 3, S: 0x3d, P: 0xed, PC: 0x8000})
		events(t, "P12.6: a reset entry", m, api.Event{Cycle: 77, Kind: api.EventReset, Vector: 0xfffc})
		logs(t, "P12.3: a reset entry", m, api.Access{Cycle: 77, Addr: 0x5311, Val: 0x66}, api.Access{Cycle: 78, Addr: 0x5311, Val: 0x66})
		s := m.State()
		if s.Cpu.Take != 0 || s.Mem.Nmi != latch || s.Mem.Ram != ram {
			t.Errorf("P12.3: a reset entry leaves Take %d, the latch %v", s.Cpu.Take, s.Mem.Nmi)
		}
		want := uint8(0)
		if latch {
			want = 2
		}
		takes(t, "P12.4: the first instruction behind a reset", m, want)
	}
}

// kinds is the four ways to leave, as machines.
func kinds(t *testing.T, turn func(s *api.State)) map[string]*interp.Machine {
	return map[string]*interp.Machine{
		"BRK":   at(t, console(0x00), turn),
		"IRQ":   at(t, console(), func(s *api.State) { turn(s); s.Cpu.Take = api.TakeIrq }),
		"NMI":   at(t, console(), func(s *api.State) { turn(s); s.Cpu.Take, s.Mem.Nmi = api.TakeNmi, true }),
		"reset": at(t, console(), func(s *api.State) { turn(s); s.Cpu.Take = api.TakeReset }),
	}
}

// An IRQ that comes in each cycle of an entry or a BRK is not polled, and leads nowhere else; behind it I is set.
func TestIrqInEntries(t *testing.T) {
	for k := range 9 {
		for name, m := range kinds(t, func(s *api.State) { irqIn(s, k); s.Cpu.Regs.P = 0x20 }) {
			what := fmt.Sprintf("P12.3: an IRQ in cycle %d of %s", k, name)
			takes(t, what, m, 0)
			l := m.Events()
			want := map[string]uint16{"BRK": 0xfffe, "IRQ": 0xfffe, "NMI": 0xfffa, "reset": 0xfffc}[name]
			if len(l) != 1 || l[0].Vector != want {
				t.Errorf("%s: %+v", what, l)
			}
			takes(t, what+": what follows", m, 0)
		}
	}
}

// Hijack: an NMI that comes in each cycle of an entry or a BRK. By the start of the sixth cycle it turns the vector; later it waits.
func TestNmiInEntries(t *testing.T) {
	for k := range 9 {
		for name, m := range kinds(t, func(s *api.State) { nmiIn(s, k) }) {
			what := fmt.Sprintf("P12.3: an NMI in cycle %d of %s", k, name)
			steps(t, what, m, 7)
			vector, pc, latch := uint16(0xfffe), uint16(0xa000), k >= 5 && k < 7
			switch {
			case name == "reset":
				vector, pc, latch = 0xfffc, 0x8000, k < 7
			case name == "NMI" || k <= 4:
				vector, pc = 0xfffa, 0x9000
			}
			want := map[string]api.Event{
				"BRK":   {Kind: api.EventBrk, PC: 0x8002, P: 0x34, Vector: vector},
				"IRQ":   {Kind: api.EventIrq, PC: 0x8000, P: 0x24, Vector: vector},
				"NMI":   {Kind: api.EventNmi, PC: 0x8000, P: 0x24, Vector: vector},
				"reset": {Kind: api.EventReset, Vector: vector},
			}[name]
			events(t, what, m, want)
			s := m.State()
			if s.Cpu.Regs.PC != pc || s.Mem.Nmi != latch || s.Cpu.Take != 0 || s.Mem.Ram[0x1fb] != want.P {
				t.Errorf("%s: %+v, the latch %v, pushed %#x", what, s.Cpu, s.Mem.Nmi, s.Mem.Ram[0x1fb])
			}
			next := uint8(0) // the NOP that follows has two cycles, and is polled behind the first
			if latch || k == 7 {
				next = 2
			}
			takes(t, what+": what follows", m, next)
		}
	}
}

// A latch that was cleared through Bus() ahead of an entry with Take 2 sends it to $FFFE, unless it is set anew by the start of the sixth cycle.
func TestLatchIsCleared(t *testing.T) {
	for k := range 9 {
		m := at(t, console(), func(s *api.State) {
			nmiIn(s, k)
			s.Cpu.Take, s.Mem.Nmi = api.TakeNmi, true
		})
		m.Bus().Ack()
		if s := m.State(); s.Cpu.Take != api.TakeNmi || s.Mem.Nmi {
			t.Fatalf("P12.2: Ack through Bus(): %+v, the latch %v", s.Cpu, s.Mem.Nmi)
		}
		steps(t, "P12.3: an entry whose latch was cleared", m, 7)
		vector, pc := uint16(0xfffe), uint16(0xa000)
		if k <= 4 {
			vector, pc = 0xfffa, 0x9000
		}
		events(t, "P12.3: an entry whose latch was cleared", m, api.Event{Kind: api.EventNmi, PC: 0x8000, P: 0x24, Vector: vector})
		registers(t, "P12.3: an entry whose latch was cleared", m, api.Regs{S: 0xfa, P: 0x24, PC: pc})
		if s := m.State(); s.Mem.Nmi != (k == 5 || k == 6) || s.Cpu.Take != 0 {
			t.Errorf("P12.3: behind it the latch is %v, Take %d", s.Mem.Nmi, s.Cpu.Take)
		}
	}
}

// A line that stays high brings one NMI; only a new rise brings another.
func TestOneNmiForARise(t *testing.T) {
	m := at(t, console(), func(s *api.State) { nmiIn(s, 3) })
	m.Play(api.Turn{Budget: 2000})
	if l := m.Events(); len(l) != 1 || l[0].Kind != api.EventNmi {
		t.Errorf("One cycle: %+v", l)
	}
}
