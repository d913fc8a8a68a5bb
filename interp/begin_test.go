package interp_test

import (
	"bytes"
	"slices"
	"testing"

	"tandem/api"
	"tandem/bus"
	"tandem/interp"
	"tandem/raster"
	"tandem/stepper"
)

// refused is cartridges that no board carries.
var refused = []struct {
	cart api.Cart
	want api.Errno
}{
	{api.Cart{Mapper: 5, Prg: make([]byte, 16384)}, api.ErrBoard},
	{api.Cart{Mapper: -1, Prg: make([]byte, 16384)}, api.ErrBoard},
	{api.Cart{Mapper: 0, Sub: 1, Prg: make([]byte, 16384)}, api.ErrBoard},
	{api.Cart{Mapper: 9}, api.ErrBoard}, // ahead of the missing PRG
	{api.Cart{}, api.ErrBanks},
	{api.Cart{Prg: make([]byte, 16383)}, api.ErrBanks},
	{api.Cart{Prg: make([]byte, 65*16384)}, api.ErrBanks},
	{api.Cart{Prg: make([]byte, 16384), Chr: make([]byte, 100)}, api.ErrBanks},
}

func TestNewRefuses(t *testing.T) {
	for _, x := range refused {
		m, e := interp.New(x.cart)
		if _, want := stepper.New(x.cart); m != nil || e != x.want || e != want {
			t.Errorf("P12.1: New of mapper %d/%d with %d and %d bytes: %v, %d, want %d", x.cart.Mapper, x.cart.Sub, len(x.cart.Prg), len(x.cart.Chr), m, e, x.want)
		}
		// An error of the cartridge goes ahead of one of the state.
		for _, s := range []api.State{{}, begun(t, console()).State()} {
			if m, e := interp.From(x.cart, s); m != nil || e != x.want {
				t.Errorf("P12.1: From of mapper %d/%d: %v, %d, want %d", x.cart.Mapper, x.cart.Sub, m, e, x.want)
			}
		}
	}
}

// A new machine.
func TestNew(t *testing.T) {
	trainer := bytes.Repeat([]byte{1, 2, 3, 4}, 128)
	for _, c := range append(carts(), console(), api.Cart{Prg: make([]byte, 16384), PrgRam: 8192, Trainer: trainer, Timing: 1, Console: 3, Device: 7}) {
		m := begun(t, c)
		b, _ := bus.New(c)
		want := api.State{Cpu: api.Cpu{Regs: api.Regs{P: 0x20}, Take: 3}, Mem: b.Mem()}
		same(t, "P12.1: a new machine", m.State(), want)
		if s := m.State().Mem; s.Cycle != 0 || s.Ram != [2048]uint8{} || !bytes.Equal(s.Work[0x1000:0x1000+len(c.Trainer)], c.Trainer) {
			t.Error("P12.1: a new machine's cycle, RAM or trainer")
		}
		if l, k := m.Log(), m.Events(); len(l) != 0 || len(k) != 0 {
			t.Errorf("P12.1: the logs of a new machine: %v, %v", l, k)
		}
	}
}

// wrongCpus is how a CPU that is valid becomes one that isn't, the latch being clear.
var wrongCpus = map[string]func(c *api.Cpu){
	"P of 0":                   func(c *api.Cpu) { c.Regs.P = 0x00 },
	"P without bit 5":          func(c *api.Cpu) { c.Regs.P = 0xcf },
	"P with bit 4":             func(c *api.Cpu) { c.Regs.P = 0x30 },
	"P with bit 4 alone":       func(c *api.Cpu) { c.Regs.P = 0x10 },
	"P of all bits":            func(c *api.Cpu) { c.Regs.P = 0xff },
	"Take 4":                   func(c *api.Cpu) { c.Take = 4 },
	"Take 255":                 func(c *api.Cpu) { c.Take = 255 },
	"Jam with an IRQ":          func(c *api.Cpu) { c.Jam, c.Take = true, 1 },
	"Jam with a reset":         func(c *api.Cpu) { c.Jam, c.Take = true, 3 },
	"Jam with Take 4":          func(c *api.Cpu) { c.Jam, c.Take = true, 4 },
	"an NMI without the latch": func(c *api.Cpu) { c.Take = 2 },
}

// wrongMems is how a memory that is valid becomes one that isn't.
var wrongMems = map[string]func(m *api.Mem){
	"a line that isn't":            func(m *api.Mem) { m.Line = true },
	"a line that is":               func(m *api.Mem) { m.Raster = api.Raster{Line: 245, Vbl: true, Nmi: true} },
	"a cycle below 0":              func(m *api.Mem) { m.Cycle = -1 },
	"a cycle behind the end":       func(m *api.Mem) { m.Cycle = api.EndCycle + 1 },
	"another board":                func(m *api.Mem) { m.Board.Kind = api.AxROM },
	"another cartridge's board":    func(m *api.Mem) { m.Board.Prg = 2 },
	"a board that isn't valid":     func(m *api.Mem) { m.Board.Latch = 1 },
	"a clock that isn't valid":     func(m *api.Mem) { m.Clock.Wait = 5 },
	"a raster that isn't valid":    func(m *api.Mem) { m.Raster.Dot = 341 },
	"a video that isn't valid":     func(m *api.Mem) { m.Video.X = 8 },
	"a DMA that is off, at a step": func(m *api.Mem) { m.Dma.Step = 1 },
	"a DMA behind its end":         func(m *api.Mem) { m.Dma = api.Dma{On: true, Step: 514} },
	"a DMA with a value":           func(m *api.Mem) { m.Dma = api.Dma{On: true, Step: 2, Val: 1} },
}

func TestFromRefuses(t *testing.T) {
	c := console()
	refuses := func(name string, c api.Cart, s api.State) {
		t.Helper()
		m, e := interp.From(c, s)
		if _, want := stepper.From(c, s); m != nil || e != api.ErrState || e != want {
			t.Errorf("P12.1: From with %s: %v, %d, want ErrState", name, m, e)
		}
	}
	for name, turn := range wrongCpus {
		s := standing(t, c, as)
		turn(&s.Cpu)
		refuses(name, c, s)
	}
	for name, turn := range wrongMems {
		s := standing(t, c, as)
		turn(&s.Mem)
		refuses(name, c, s)
	}
	s := standing(t, c, as)
	s.Cpu.Jam, s.Cpu.Take, s.Mem.Nmi = true, 2, true
	refuses("Jam with an NMI", c, s)
	refuses("the zero state", c, api.State{})
	mmc1 := filled(api.Cart{Mapper: api.MMC1}, 2, 0)
	s = begun(t, mmc1).State()
	s.Mem.Board.Last = 0
	refuses("a write in a cycle that is not done", mmc1, s)
}

// Every P that has bit 5 set and bit 4 clear, every Take, and the ends of all bounds.
func TestFromTakes(t *testing.T) {
	c := console()
	check := func(turn func(s *api.State)) {
		t.Helper()
		s := standing(t, c, turn)
		s.Mem.Line = raster.Line(s.Mem.Raster)
		m := from(t, c, s)
		same(t, "P12.1: From", m.State(), s)
		if m.Cpu() != s.Cpu {
			t.Errorf("P12.2: Cpu() is %+v, want %+v", m.Cpu(), s.Cpu)
		}
		if l, k := m.Log(), m.Events(); len(l) != 0 || len(k) != 0 {
			t.Errorf("P12.1: the logs of a machine from a state: %v, %v", l, k)
		}
	}
	for p := range 256 {
		if p&0x30 == 0x20 {
			check(func(s *api.State) { s.Cpu.Regs = api.Regs{A: 1, X: 2, Y: 3, S: 4, P: uint8(p), PC: 5} })
		}
	}
	for take := range uint8(4) {
		check(func(s *api.State) { s.Cpu.Take, s.Mem.Nmi = take, true })
		if take != 2 {
			check(func(s *api.State) { s.Cpu.Take = take })
		}
	}
	check(func(s *api.State) { s.Cpu.Jam = true })
	check(func(s *api.State) { s.Cpu.Jam, s.Mem.Nmi = true, true })
	check(func(s *api.State) { s.Mem.Raster = api.Raster{Line: 245, Vbl: true, Nmi: true} })
	check(func(s *api.State) { s.Mem.Dma = api.Dma{On: true, Page: 9, Step: 513, Val: 1} })
	for _, n := range []int{1, api.MaxCycle - 1, api.MaxCycle, api.MaxCycle + 1, api.EndCycle} {
		check(func(s *api.State) { s.Mem.Cycle = n })
	}
}

// What is handed in may change later, and two machines of one cartridge have nothing in common.
func TestCopies(t *testing.T) {
	c := filled(api.Cart{Mapper: api.CNROM, PrgRam: 8192}, 2, 4)
	c.Trainer = bytes.Repeat([]byte{7}, 512)
	alone, kept := c, begun(t, c).State()
	alone.Prg, alone.Chr = slices.Clone(c.Prg), slices.Clone(c.Chr)
	alone.Trainer = slices.Clone(c.Trainer)
	one, two, three := begun(t, c), begun(t, c), from(t, c, kept)
	clear(c.Prg)
	clear(c.Chr)
	clear(c.Trainer)
	want := begun(t, alone)
	for range 2000 {
		want.Step()
		one.Step()
		three.Step()
	}
	same(t, "P12.1: New, behind a change of the cartridge", one.State(), want.State())
	same(t, "P12.1: From, behind a change of the cartridge", three.State(), want.State())
	same(t, "P2: a machine beside another one", two.State(), kept)
	if !bytes.Equal(alone.Prg, filled(api.Cart{Mapper: api.CNROM, PrgRam: 8192}, 2, 4).Prg) {
		t.Error("P2: a machine changes its cartridge")
	}
}
