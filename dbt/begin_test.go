package dbt_test

import (
	"bytes"
	"math"
	"testing"

	"tandem/api"
	"tandem/dbt"
	"tandem/interp"
)

// refused is cartridges that no board carries.
var refused = []struct {
	cart api.Cart
	want api.Errno
}{
	{api.Cart{Mapper: 5, Prg: make([]byte, 16384)}, api.ErrBoard},
	{api.Cart{Mapper: -1, Prg: make([]byte, 16384)}, api.ErrBoard},
	{api.Cart{Mapper: 0, Sub: 1, Prg: make([]byte, 16384)}, api.ErrBoard},
	{api.Cart{Mapper: 9}, api.ErrBoard},
	{api.Cart{}, api.ErrBanks},
	{api.Cart{Prg: make([]byte, 16383)}, api.ErrBanks},
	{api.Cart{Prg: make([]byte, 65*16384)}, api.ErrBanks},
	{api.Cart{Prg: make([]byte, 16384), Chr: make([]byte, 100)}, api.ErrBanks},
}

// policies is sizes and limits, and what is said of them.
var policies = []struct {
	size, limit int
	want        api.Errno
}{
	{1, 1, api.OK}, {1, 64, api.OK}, {65536, 1, api.OK}, {65536, 64, api.OK}, {16, 8, api.OK}, {65535, 63, api.OK},
	{0, 8, api.ErrSize}, {-1, 8, api.ErrSize}, {65537, 8, api.ErrSize}, {math.MaxInt, 8, api.ErrSize}, {math.MinInt, 8, api.ErrSize},
	{0, 0, api.ErrSize}, {65537, 65, api.ErrSize}, {-5, -5, api.ErrSize}, // the size's error goes ahead of the limit's
	{16, 0, api.ErrLimit}, {16, -1, api.ErrLimit}, {16, 65, api.ErrLimit}, {1, math.MaxInt, api.ErrLimit}, {65536, math.MinInt, api.ErrLimit},
}

// Errors in their order: the cartridge's, the state's, the size's, the limit's.
func TestRefused(t *testing.T) {
	good := standing(t, console(), as)
	for _, x := range refused {
		for _, p := range policies {
			if m, e := dbt.New(x.cart, p.size, p.limit); m != nil || e != x.want {
				t.Errorf("P15.1: New of mapper %d/%d with %d, %d: %v, %d, want %d", x.cart.Mapper, x.cart.Sub, p.size, p.limit, m, e, x.want)
			}
			for _, s := range []api.State{{}, good} {
				if m, e := dbt.From(x.cart, s, p.size, p.limit); m != nil || e != x.want {
					t.Errorf("P15.1: From of mapper %d/%d with %d, %d: %v, %d, want %d", x.cart.Mapper, x.cart.Sub, p.size, p.limit, m, e, x.want)
				}
			}
		}
	}
	for _, p := range policies {
		if m, e := dbt.New(console(), p.size, p.limit); e != p.want || (m == nil) != (e != api.OK) {
			t.Errorf("P15.1: New with %d slots and %d instructions: %v, %d, want %d", p.size, p.limit, m, e, p.want)
		}
		if m, e := dbt.From(console(), good, p.size, p.limit); e != p.want || (m == nil) != (e != api.OK) {
			t.Errorf("P15.1: From with %d slots and %d instructions: %v, %d, want %d", p.size, p.limit, m, e, p.want)
		}
		for name, turn := range wrong {
			s := standing(t, console(), as)
			turn(&s)
			if m, e := dbt.From(console(), s, p.size, p.limit); m != nil || e != api.ErrState {
				t.Errorf("P15.1: From with %s and %d, %d: %v, %d, want ErrState", name, p.size, p.limit, m, e)
			}
		}
	}
}

// wrong is how a state that is valid becomes one that isn't.
var wrong = map[string]func(s *api.State){
	"P of 0":                   func(s *api.State) { s.Cpu.Regs.P = 0 },
	"P with bit 4":             func(s *api.State) { s.Cpu.Regs.P = 0x30 },
	"Take 4":                   func(s *api.State) { s.Cpu.Take = 4 },
	"Jam with a reset":         func(s *api.State) { s.Cpu.Jam, s.Cpu.Take = true, 3 },
	"an NMI without the latch": func(s *api.State) { s.Cpu.Take = 2 },
	"a line that isn't":        func(s *api.State) { s.Mem.Line = true },
	"a cycle below 0":          func(s *api.State) { s.Mem.Cycle = -1 },
	"a cycle behind the end":   func(s *api.State) { s.Mem.Cycle = api.EndCycle + 1 },
	"another board":            func(s *api.State) { s.Mem.Board.Kind = api.AxROM },
	"a clock that isn't valid": func(s *api.State) { s.Mem.Clock.Wait = 5 },
	"a raster that isn't":      func(s *api.State) { s.Mem.Raster.Dot = 341 },
	"a video that isn't":       func(s *api.State) { s.Mem.Video.X = 8 },
	"a DMA behind its end":     func(s *api.State) { s.Mem.Dma = api.Dma{On: true, Step: 514} },
	"nothing that is right":    func(s *api.State) { *s = api.State{} },
}

// blank asks for a machine of which nothing is to be told yet.
func blank(t *testing.T, what string, m *dbt.Machine) {
	t.Helper()
	stats(t, what, m, api.Stats{})
	keys(t, what, m)
	entries(t, what, m)
	if l, k := m.Log(), m.Events(); len(l) != 0 || len(k) != 0 {
		t.Errorf("%s: logs %v, %v", what, l, k)
	}
}

// A new machine is the interpreter's, with nothing cached, counted or listed.
func TestNew(t *testing.T) {
	trainer := bytes.Repeat([]byte{1, 2, 3, 4}, 128)
	for _, c := range append(carts(), console(), api.Cart{Prg: make([]byte, 16384), PrgRam: 8192, Trainer: trainer, Timing: 1, Console: 3, Device: 7}) {
		for _, p := range policies[:6] {
			m := begun(t, c, p.size, p.limit)
			y, _ := interp.New(c)
			sameState(t, "P15.1: a new machine", m, y.State())
			blank(t, "P15.1: a new machine", m)
		}
	}
}

// A machine from a state is at it.
func TestFrom(t *testing.T) {
	c := console()
	for name, turn := range map[string]func(s *api.State){
		"a reset":      as,
		"a jammed CPU": func(s *api.State) { s.Cpu.Jam = true },
		"an NMI":       func(s *api.State) { s.Cpu.Take, s.Mem.Nmi = 2, true },
		"DMA":          func(s *api.State) { s.Mem.Dma = api.Dma{On: true, Page: 9, Step: 513, Val: 1} },
		"code in RAM":  inRam(0x0234, 1, 2, 3),
		"the end":      func(s *api.State) { s.Mem.Cycle = api.EndCycle },
	} {
		s := standing(t, c, turn)
		for _, p := range policies[:6] {
			m := from(t, c, s, p.size, p.limit)
			sameState(t, "P15.1: from "+name, m, s)
			blank(t, "P15.1: from "+name, m)
		}
	}
}

// The cartridge's bytes are copied: what happens to them later doesn't matter.
func TestCopied(t *testing.T) {
	c, kept := console(counting...), console(counting...)
	c.Chr, kept.Chr = make([]byte, 8192), make([]byte, 8192)
	c.Trainer, kept.Trainer = make([]byte, 512), make([]byte, 512)
	want := begun(t, kept, 16, 8)
	m, k := begun(t, c, 16, 8), from(t, c, begun(t, c, 16, 8).State(), 16, 8)
	for _, l := range [][]byte{c.Prg, c.Chr, c.Trainer} {
		for i := range l {
			l[i] = 0x02
		}
	}
	for range 30 {
		n := want.Pass(100)
		pass(t, "P15.1: a cartridge written over", m, 100, n)
		pass(t, "P15.1: a cartridge written over", k, 100, n)
	}
	sameState(t, "P15.1: a cartridge written over", m, want.State())
	sameState(t, "P15.1: a cartridge written over", k, want.State())
	for i := range kept.Prg {
		if kept.Prg[i] != console(counting...).Prg[i] {
			t.Fatalf("P2: byte %d of the PRG that was handed in is changed", i)
		}
	}
}

// Machines of one cartridge have nothing in common.
func TestBesideEachOther(t *testing.T) {
	c := carts()[0]
	alone, a, b := begun(t, c, 64, 8), begun(t, c, 64, 8), begun(t, c, 64, 8)
	for range 500 {
		alone.Pass(1000)
	}
	for range 500 {
		a.Pass(1000)
		b.Pass(3)
		b.Flush()
		b.Warm([]uint16{0x8000, 0xc000}, 2)
	}
	sameState(t, "P2: machines beside each other", a, alone.State())
	stats(t, "P2: machines beside each other", a, alone.Stats())
	keys(t, "P2: machines beside each other", a, alone.Keys()...)
}
