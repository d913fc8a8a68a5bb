package stepper_test

import (
	"bytes"
	"slices"
	"testing"

	"tandem/api"
	"tandem/bus"
	"tandem/raster"
	"tandem/stepper"
)

// refused is cartridges that no board carries.
var refused = []struct {
	cart api.Cart
	want api.Errno
}{
	{api.Cart{Mapper: 5, Prg: make([]byte, 16384)}, api.ErrBoard},
	{api.Cart{Mapper: -1, Prg: make([]byte, 16384)}, api.ErrBoard},
	{api.Cart{Mapper: 0, Sub: 1, Prg: make([]byte, 16384)}, api.ErrBoard},
	{api.Cart{Mapper: 9}, api.ErrBoard}, // ahead of the missing PRG
	{api.Cart{}, api.ErrBanks},
	{api.Cart{Prg: make([]byte, 16383)}, api.ErrBanks},
	{api.Cart{Prg: make([]byte, 65*16384)}, api.ErrBanks},
	{api.Cart{Prg: make([]byte, 16384), Chr: make([]byte, 100)}, api.ErrBanks},
}

func TestNewRefuses(t *testing.T) {
	for _, x := range refused {
		m, e := stepper.New(x.cart)
		if _, want := bus.New(x.cart); m != nil || e != x.want || e != want {
			t.Errorf("11.1: New of mapper %d/%d with %d and %d bytes: %v, %d, want %d", x.cart.Mapper, x.cart.Sub, len(x.cart.Prg), len(x.cart.Chr), m, e, x.want)
		}
		// An error of the cartridge goes ahead of one of the state.
		for _, s := range []api.State{{}, stateOf(t, begun(t, console()))} {
			if m, e := stepper.From(x.cart, s); m != nil || e != x.want {
				t.Errorf("11.1: From of mapper %d/%d: %v, %d, want %d", x.cart.Mapper, x.cart.Sub, m, e, x.want)
			}
		}
	}
}

// A new machine.
func TestNew(t *testing.T) {
	trainer := bytes.Repeat([]byte{1, 2, 3, 4}, 128)
	for _, c := range append(carts(), console(), api.Cart{Prg: make([]byte, 16384), PrgRam: 8192, Trainer: trainer, Timing: 1, Console: 3, Device: 7}) {
		m := begun(t, c)
		b, _ := bus.New(c)
		want := api.State{Cpu: api.Cpu{Regs: api.Regs{P: 0x20}, Take: 3}, Mem: b.Mem()}
		if s := stateOf(t, m); s.Cpu != want.Cpu || m.Step() != 0 {
			t.Errorf("11.1: a new machine of mapper %d: %+v", c.Mapper, s.Cpu)
		}
		same(t, "11.1: a new machine", stateOf(t, m).Mem, want.Mem)
		if s := stateOf(t, m).Mem; s.Cycle != 0 || s.Ram != [2048]uint8{} || !bytes.Equal(s.Work[0x1000:0x1000+len(c.Trainer)], c.Trainer) {
			t.Error("11.1: a new machine's cycle, RAM or trainer")
		}
		if l, k := m.Log(), m.Events(); len(l) != 0 || len(k) != 0 {
			t.Errorf("11.1: the logs of a new machine: %v, %v", l, k)
		}
	}
}

// turns is how a state that is valid becomes one that isn't.
var turns = map[string]func(s *api.State){
	"P without bit 5":              func(s *api.State) { s.Cpu.Regs.P = 0x04 },
	"P with bit 4":                 func(s *api.State) { s.Cpu.Regs.P = 0x30 },
	"P with bit 4 alone":           func(s *api.State) { s.Cpu.Regs.P = 0x10 },
	"Take 4":                       func(s *api.State) { s.Cpu.Take = 4 },
	"Take 255":                     func(s *api.State) { s.Cpu.Take = 255 },
	"Jam with an IRQ":              func(s *api.State) { s.Cpu.Jam, s.Cpu.Take = true, 1 },
	"Jam with an NMI":              func(s *api.State) { s.Cpu.Jam, s.Cpu.Take, s.Mem.Nmi = true, 2, true },
	"Jam with a reset":             func(s *api.State) { s.Cpu.Jam, s.Cpu.Take = true, 3 },
	"an NMI without the latch":     func(s *api.State) { s.Cpu.Take = 2 },
	"a line that isn't":            func(s *api.State) { s.Mem.Line = true },
	"a line that is":               func(s *api.State) { s.Mem.Raster = api.Raster{Line: 245, Vbl: true, Nmi: true} },
	"a cycle below 0":              func(s *api.State) { s.Mem.Cycle = -1 },
	"a cycle behind the end":       func(s *api.State) { s.Mem.Cycle = api.EndCycle + 1 },
	"another board":                func(s *api.State) { s.Mem.Board.Kind = api.AxROM },
	"another cartridge's board":    func(s *api.State) { s.Mem.Board.Prg = 2 },
	"a board that isn't valid":     func(s *api.State) { s.Mem.Board.Latch = 1 },
	"a clock that isn't valid":     func(s *api.State) { s.Mem.Clock.Wait = 5 },
	"a raster that isn't valid":    func(s *api.State) { s.Mem.Raster.Dot = 341 },
	"a video that isn't valid":     func(s *api.State) { s.Mem.Video.X = 8 },
	"a DMA that is off, at a step": func(s *api.State) { s.Mem.Dma.Step = 1 },
	"a DMA behind its end":         func(s *api.State) { s.Mem.Dma = api.Dma{On: true, Step: 514} },
	"a DMA with a value":           func(s *api.State) { s.Mem.Dma = api.Dma{On: true, Step: 2, Val: 1} },
}

func TestFromRefuses(t *testing.T) {
	c := console()
	for name, turn := range turns {
		s := stateOf(t, begun(t, c))
		s.Cpu.Take = 0
		turn(&s)
		if m, e := stepper.From(c, s); m != nil || e != api.ErrState {
			t.Errorf("11.1: From with %s: %v, %d, want ErrState", name, m, e)
		}
	}
	if m, e := stepper.From(c, api.State{}); m != nil || e != api.ErrState {
		t.Errorf("11.1: From of the zero state: %v, %d", m, e)
	}
	mmc1 := filled(api.Cart{Mapper: api.MMC1}, 2, 0)
	s := stateOf(t, begun(t, mmc1))
	s.Mem.Board.Last = 0
	if m, e := stepper.From(mmc1, s); m != nil || e != api.ErrState {
		t.Errorf("11.1: From with a write in a cycle that is not done: %v, %d", m, e)
	}
}

// Every P that has bit 5 set and bit 4 clear, every Take, and the ends of all bounds.
func TestFromTakes(t *testing.T) {
	c := console()
	check := func(turn func(s *api.State)) {
		t.Helper()
		s := stateOf(t, begun(t, c))
		s.Cpu.Take = 0
		turn(&s)
		s.Mem.Line = raster.Line(s.Mem.Raster)
		m := from(t, c, s)
		if now := stateOf(t, m); now != s || m.Step() != 0 {
			t.Errorf("11.1: From stands at %+v, want %+v", now.Cpu, s.Cpu)
		}
		if l, k := m.Log(), m.Events(); len(l) != 0 || len(k) != 0 {
			t.Errorf("11.1: the logs of a machine from a state: %v, %v", l, k)
		}
	}
	for p := range 256 {
		if p&0x30 == 0x20 {
			check(func(s *api.State) { s.Cpu.Regs = api.Regs{A: 1, X: 2, Y: 3, S: 4, P: uint8(p), PC: 5} })
		}
	}
	for take := range uint8(4) {
		check(func(s *api.State) { s.Cpu.Take, s.Mem.Nmi = take, true })
		if take != 2 {
			check(func(s *api.State) { s.Cpu.Take = take })
		}
	}
	check(func(s *api.State) { s.Cpu.Jam = true })
	check(func(s *api.State) { s.Cpu.Jam, s.Mem.Nmi = true, true })
	check(func(s *api.State) { s.Mem.Raster = api.Raster{Line: 245, Vbl: true, Nmi: true} })
	check(func(s *api.State) { s.Mem.Dma = api.Dma{On: true, Page: 9, Step: 513, Val: 1} })
	for _, n := range []int{1, api.MaxCycle - 1, api.MaxCycle, api.MaxCycle + 1, api.EndCycle} {
		check(func(s *api.State) { s.Mem.Cycle = n })
	}
}

// What is handed in may change later, and two machines of one cartridge have nothing in common.
func TestCopies(t *testing.T) {
	c := filled(api.Cart{Mapper: api.CNROM, PrgRam: 8192}, 2, 4)
	c.Trainer = bytes.Repeat([]byte{7}, 512)
	alone, kept := c, stateOf(t, begun(t, c))
	alone.Prg, alone.Chr = slices.Clone(c.Prg), slices.Clone(c.Chr)
	alone.Trainer = slices.Clone(c.Trainer)
	one, two, three := begun(t, c), begun(t, c), from(t, c, kept)
	clear(c.Prg)
	clear(c.Chr)
	clear(c.Trainer)
	want := begun(t, alone)
	for range 5000 {
		a, ok := want.Tick()
		for _, m := range []*stepper.Machine{one, three} {
			if b, ok2 := m.Tick(); a != b || ok != ok2 {
				t.Fatalf("11.1: behind a change of the cartridge: %+v, want %+v", b, a)
			}
		}
	}
	if stateOf(t, two) != kept {
		t.Error("P2: a machine goes on with another one")
	}
	same(t, "11.1: behind a change of the cartridge", one.Mem(), want.Mem())
	if !bytes.Equal(alone.Prg, filled(api.Cart{Mapper: api.CNROM, PrgRam: 8192}, 2, 4).Prg) {
		t.Error("P2: a machine changes its cartridge")
	}
}
