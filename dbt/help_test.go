package dbt_test

import (
	"fmt"
	"math/rand"
	"slices"
	"testing"

	"tandem/api"
	"tandem/bus"
	"tandem/dbt"
	"tandem/interp"
	"tandem/raster"
)

// console is the cartridge of the chapter's examples: 32 KiB of NOPs with code at $8000. The vectors are $9000 (NMI), $8000 (reset), $A000 (IRQ).
func console(code ...uint8) api.Cart {
	prg := make([]byte, 2*api.PrgUnit)
	for i := range prg {
		prg[i] = 0xea
	}
	copy(prg, code)
	copy(prg[0x7ffa:], []byte{0x00, 0x90, 0x00, 0x80, 0x00, 0xa0})
	return api.Cart{PrgRam: 8192, Prg: prg}
}

// begun is a new machine.
func begun(t *testing.T, c api.Cart, size, limit int) *dbt.Machine {
	t.Helper()
	m, e := dbt.New(c, size, limit)
	if e != api.OK || m == nil {
		t.Fatalf("P15.1: New of mapper %d with %d slots and %d instructions: %d", c.Mapper, size, limit, e)
	}
	return m
}

// behindReset is the machine of the examples, 16 slots and blocks of 8 instructions, behind its reset.
func behindReset(t *testing.T, code ...uint8) *dbt.Machine {
	t.Helper()
	m := begun(t, console(code...), 16, 8)
	passes(t, "example 1: the reset", m, 7)
	stats(t, "example 1: the reset", m, api.Stats{Steps: 1})
	m.Events()
	return m
}

// from is a machine that goes on from a state.
func from(t *testing.T, c api.Cart, s api.State, size, limit int) *dbt.Machine {
	t.Helper()
	m, e := dbt.From(c, s, size, limit)
	if e != api.OK || m == nil {
		t.Fatalf("P15.1: From of %+v with %d slots and %d instructions: %d", s.Cpu, size, limit, e)
	}
	return m
}

// standing is the state of a machine that stands at $8000, as if a reset lay behind it, with something turned in it.
func standing(t *testing.T, c api.Cart, turn func(s *api.State)) api.State {
	t.Helper()
	m, e := interp.New(c)
	if e != api.OK {
		t.Fatalf("interp.New of mapper %d: %d", c.Mapper, e)
	}
	s := m.State()
	s.Cpu = api.Cpu{Regs: api.Regs{S: 0xfd, P: 0x24, PC: 0x8000}}
	turn(&s)
	s.Mem.Line = raster.Line(s.Mem.Raster)
	return s
}

// at is a machine with that state, 256 slots and blocks of 8 instructions.
func at(t *testing.T, c api.Cart, turn func(s *api.State)) *dbt.Machine {
	t.Helper()
	return from(t, c, standing(t, c, turn), 256, 8)
}

// as turns nothing.
func as(*api.State) {}

// inRam lays code in RAM, and stands there.
func inRam(addr uint16, code ...uint8) func(s *api.State) {
	return func(s *api.State) {
		copy(s.Mem.Ram[addr%2048:], code)
		s.Cpu.Regs.PC = addr
	}
}

// irqIn lets the timer run out in the cycle of that number from now on, the next one being 0.
func irqIn(s *api.State, k int) {
	s.Mem.Clock = api.Clock{Count: uint16(k), Latch: 0xffff, Ctl: 3, Inhibit: true}
}

// nmiIn lets the NMI line rise in the cycle of that number from now on.
func nmiIn(s *api.State, k int) {
	place := 241*341 + 1 - 3*(k+1)
	s.Mem.Raster = api.Raster{Line: place / 341, Dot: place % 341, Nmi: true}
}

// high is a level that stands.
func high(s *api.State) { s.Mem.Clock = api.Clock{Flag: true, Ctl: 2, Inhibit: true} }

// busOf is a bus at the memory of a machine.
func busOf(t *testing.T, c api.Cart, m *dbt.Machine) *bus.Bus {
	t.Helper()
	b, e := bus.From(c, m.State().Mem)
	if e != api.OK {
		t.Fatalf("P4: a memory that isn't valid: %d", e)
	}
	return b
}

// passes asks for so many passes, each with 100 left and as long as it is told.
func passes(t *testing.T, what string, m *dbt.Machine, want ...int) {
	t.Helper()
	for i, w := range want {
		pass(t, fmt.Sprintf("%s: pass %d", what, i+1), m, 100, w)
	}
}

// pass asks for one pass.
func pass(t *testing.T, what string, m *dbt.Machine, left, want int) {
	t.Helper()
	cycle := m.State().Mem.Cycle
	if n := m.Pass(left); n != want || m.State().Mem.Cycle != cycle+want {
		t.Fatalf("%s: Pass(%d) answers %d, and %d cycles went by, want %d", what, left, n, m.State().Mem.Cycle-cycle, want)
	}
}

// stats asks for the counters.
func stats(t *testing.T, what string, m *dbt.Machine, want api.Stats) {
	t.Helper()
	if s := m.Stats(); s != want {
		t.Fatalf("%s: %+v, want %+v", what, s, want)
	}
}

// key is a key, in short.
func key(pc uint16, tag int) api.Key { return api.Key{PC: pc, Tag: tag} }

// keys asks for the cache's keys.
func keys(t *testing.T, what string, m *dbt.Machine, want ...api.Key) {
	t.Helper()
	if l := m.Keys(); !slices.Equal(l, want) {
		t.Fatalf("%s: keys %v, want %v", what, l, want)
	}
}

// entries asks for the entries since the last time.
func entries(t *testing.T, what string, m *dbt.Machine, want ...api.Entry) {
	t.Helper()
	if l := m.Entries(); !slices.Equal(l, want) {
		t.Fatalf("%s: entries %+v, want %+v", what, l, want)
	}
}

// plays asks for a turn.
func plays(t *testing.T, what string, m *dbt.Machine, turn api.Turn, want int, e api.Errno) {
	t.Helper()
	cycle := m.State().Mem.Cycle
	if n, got := m.Play(turn); n != want || got != e || m.State().Mem.Cycle-cycle != want {
		t.Errorf("%s: Play(%+v) = %d, %d, and %d cycles went by, want %d, %d", what, turn, n, got, m.State().Mem.Cycle-cycle, want, e)
	}
}

// warms asks for a warming.
func warms(t *testing.T, what string, m *dbt.Machine, pcs []uint16, workers, want int, e api.Errno) {
	t.Helper()
	if n, got := m.Warm(pcs, workers); n != want || got != e {
		t.Fatalf("%s: Warm of %d by %d workers = %d, %d, want %d, %d", what, len(pcs), workers, n, got, want, e)
	}
}

// same holds two states against each other.
func same(t *testing.T, what string, got, want *api.State) {
	t.Helper()
	if *got == *want {
		return
	}
	if got.Cpu != want.Cpu {
		t.Fatalf("%s: %+v, want %+v", what, got.Cpu, want.Cpu)
	}
	g, w := &got.Mem, &want.Mem
	for i := range g.Ram {
		if g.Ram[i] != w.Ram[i] {
			t.Fatalf("%s: Ram[%#x] is %#x, want %#x", what, i, g.Ram[i], w.Ram[i])
		}
	}
	for i := range g.Work {
		if g.Work[i] != w.Work[i] {
			t.Fatalf("%s: Work[%#x] is %#x, want %#x", what, i, g.Work[i], w.Work[i])
		}
	}
	small := func(m *api.Mem) string {
		return fmt.Sprintf("%+v %+v %+v %+v %+v open %d cycle %d line %v nmi %v", m.Board, m.Clock, m.Raster, m.Pads, m.Dma, m.Open, m.Cycle, m.Line, m.Nmi)
	}
	t.Fatalf("%s: %s, want %s (the same video memory: %v)", what, small(g), small(w), g.Video == w.Video)
}

// sameState holds a machine's state against a wanted one.
func sameState(t *testing.T, what string, m *dbt.Machine, want api.State) {
	t.Helper()
	s := m.State()
	same(t, what, &s, &want)
}

// some picks one of a list.
func some[T any](r *rand.Rand, l ...T) T { return l[r.Intn(len(l))] }

// flip is true or false.
func flip(r *rand.Rand) bool { return r.Intn(2) == 0 }

// anyByte is a byte.
func anyByte(r *rand.Rand) uint8 { return uint8(r.Intn(256)) }

// everywhere is all addresses.
func everywhere() []uint16 {
	pcs := make([]uint16, 65536)
	for i := range pcs {
		pcs[i] = uint16(i)
	}
	return pcs
}
