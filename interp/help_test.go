package interp_test

import (
	"fmt"
	"math/rand"
	"slices"
	"testing"

	"tandem/api"
	"tandem/interp"
	"tandem/mapper"
	"tandem/raster"
	"tandem/stepper"
)

// console is the cartridge of the chapter's examples: 32 KiB of NOPs with code at $8000. The vectors are $9000 (NMI), $8000 (reset), $A000 (IRQ).
func console(code ...uint8) api.Cart {
	prg := make([]byte, 2*api.PrgUnit)
	for i := range prg {
		prg[i] = 0xea
	}
	copy(prg, code)
	copy(prg[0x7ffa:], []byte{0x00, 0x90, 0x00, 0x80, 0x00, 0xa0})
	return api.Cart{PrgRam: 8192, Prg: prg}
}

// begun is a new machine.
func begun(t *testing.T, c api.Cart) *interp.Machine {
	t.Helper()
	m, e := interp.New(c)
	if e != api.OK || m == nil {
		t.Fatalf("P12.1: New of mapper %d: %d", c.Mapper, e)
	}
	return m
}

// behindReset is a machine of a console whose first entry is done, with no events to tell.
func behindReset(t *testing.T, code ...uint8) *interp.Machine {
	t.Helper()
	m := begun(t, console(code...))
	steps(t, "example 1: the reset entry", m, 7)
	m.Events()
	return m
}

// from is a machine that goes on from a state.
func from(t *testing.T, c api.Cart, s api.State) *interp.Machine {
	t.Helper()
	m, e := interp.From(c, s)
	if e != api.OK || m == nil {
		t.Fatalf("P12.1: From of %+v: %d", s.Cpu, e)
	}
	return m
}

// standing is the state of a machine that stands at $8000, as if a reset lay behind it, with something turned in it.
func standing(t *testing.T, c api.Cart, turn func(s *api.State)) api.State {
	t.Helper()
	s := begun(t, c).State()
	s.Cpu = api.Cpu{Regs: api.Regs{S: 0xfd, P: 0x24, PC: 0x8000}}
	turn(&s)
	s.Mem.Line = raster.Line(s.Mem.Raster)
	return s
}

// at is a machine with that state.
func at(t *testing.T, c api.Cart, turn func(s *api.State)) *interp.Machine {
	t.Helper()
	return from(t, c, standing(t, c, turn))
}

// as turns nothing.
func as(*api.State) {}

// turned puts a CPU in, of which something is turned.
func turned(m *interp.Machine, turn func(c *api.Cpu)) {
	c := m.Cpu()
	turn(&c)
	m.SetCpu(c)
}

// steps asks for so many Steps, each as long as it is told.
func steps(t *testing.T, what string, m *interp.Machine, want ...int) {
	t.Helper()
	for i, w := range want {
		cycle := m.Bus().Cycle()
		if n := m.Step(); n != w || m.Bus().Cycle() != cycle+w {
			t.Fatalf("%s: Step number %d answers %d, and %d cycles went by, want %d", what, i+1, n, m.Bus().Cycle()-cycle, w)
		}
	}
}

// takes asks for Take behind a Step.
func takes(t *testing.T, what string, m *interp.Machine, want uint8) {
	t.Helper()
	m.Step()
	if take := m.Cpu().Take; take != want {
		t.Errorf("%s: Take is %d, want %d", what, take, want)
	}
}

// registers asks for the registers.
func registers(t *testing.T, what string, m *interp.Machine, want api.Regs) {
	t.Helper()
	if r := m.Cpu().Regs; r != want {
		t.Errorf("%s: %+v, want %+v", what, r, want)
	}
}

// events asks for what has come since the last time.
func events(t *testing.T, what string, m *interp.Machine, want ...api.Event) {
	t.Helper()
	if l := m.Events(); !slices.Equal(l, want) {
		t.Errorf("%s: events %+v, want %+v", what, l, want)
	}
}

// logs asks for the device accesses since the last time.
func logs(t *testing.T, what string, m *interp.Machine, want ...api.Access) {
	t.Helper()
	if l := m.Log(); !slices.Equal(l, want) {
		t.Errorf("%s: accesses %+v, want %+v", what, l, want)
	}
}

// stores asks for the places in RAM and work RAM that were written since the last time.
func stores(t *testing.T, what string, m *interp.Machine, want ...int) {
	t.Helper()
	if l := m.Bus().Stores(); !slices.Equal(l, want) {
		t.Errorf("%s: stores %#x, want %#x", what, l, want)
	}
}

// same holds two states against each other.
func same(t *testing.T, what string, got, want api.State) {
	t.Helper()
	if got == want {
		return
	}
	if got.Cpu != want.Cpu {
		t.Fatalf("%s: %+v, want %+v", what, got.Cpu, want.Cpu)
	}
	g, w := &got.Mem, &want.Mem
	for i := range g.Ram {
		if g.Ram[i] != w.Ram[i] {
			t.Fatalf("%s: Ram[%#x] is %#x, want %#x", what, i, g.Ram[i], w.Ram[i])
		}
	}
	for i := range g.Work {
		if g.Work[i] != w.Work[i] {
			t.Fatalf("%s: Work[%#x] is %#x, want %#x", what, i, g.Work[i], w.Work[i])
		}
	}
	small := func(m *api.Mem) string {
		return fmt.Sprintf("%+v %+v %+v %+v %+v open %d cycle %d line %v nmi %v", m.Board, m.Clock, m.Raster, m.Pads, m.Dma, m.Open, m.Cycle, m.Line, m.Nmi)
	}
	t.Fatalf("%s: %s, want %s (the same video memory: %v)", what, small(g), small(w), g.Video == w.Video)
}

// irqIn lets the timer run out in the cycle of that number from now on, the next one being 0.
func irqIn(s *api.State, k int) {
	s.Mem.Clock = api.Clock{Count: uint16(k), Latch: 0xffff, Ctl: 3}
}

// nmiIn lets the NMI line rise in the cycle of that number from now on.
func nmiIn(s *api.State, k int) {
	place := 241*341 + 1 - 3*(k+1)
	s.Mem.Raster = api.Raster{Line: place / 341, Dot: place % 341, Nmi: true}
}

// high is a level that stands.
func high(s *api.State) { s.Mem.Clock = api.Clock{Flag: true, Ctl: 2} }

// pair is the machine and the stepper beside it.
type pair struct {
	t    *testing.T
	cart api.Cart
	m    *interp.Machine
	x    *stepper.Machine
}

// beside is both machines at a state.
func beside(t *testing.T, c api.Cart, s api.State) *pair {
	t.Helper()
	x, e := stepper.From(c, s)
	if e != api.OK {
		t.Fatalf("the stepper refuses %+v: %d", s.Cpu, e)
	}
	return &pair{t, c, from(t, c, s), x}
}

// both is both machines when they begin.
func both(t *testing.T, c api.Cart) *pair {
	t.Helper()
	x, e := stepper.New(c)
	if e != api.OK {
		t.Fatalf("the stepper refuses mapper %d: %d", c.Mapper, e)
	}
	return &pair{t, c, begun(t, c), x}
}

// step is a Step of the one and as many Ticks of the other: there is a boundary behind the last of them alone.
func (p *pair) step(what string) int {
	p.t.Helper()
	was := p.m.Cpu()
	n := p.m.Step()
	for k := 1; k <= n; k++ {
		p.x.Tick()
		if (p.x.Step() == 0) != (k == n) {
			p.t.Fatalf("P12.5: %s: Step from %+v answers %d, the stepper's Step() is %d behind %d cycles", what, was, n, p.x.Step(), k)
		}
	}
	if n == 0 {
		if _, ok := p.x.Tick(); ok || p.m.Bus().Cycle() < api.MaxCycle {
			p.t.Fatalf("P12.5: %s: Step from %+v in cycle %d answers 0", what, was, p.m.Bus().Cycle())
		}
	}
	p.agree(what)
	return n
}

// agree holds the states and the logs against each other.
func (p *pair) agree(what string) {
	p.t.Helper()
	s, ok := p.x.State()
	if !ok {
		p.t.Fatalf("P12.5: %s: the stepper is at no boundary", what)
	}
	same(p.t, "P12.5: "+what, p.m.State(), s)
	if l, k := p.m.Log(), p.x.Log(); !slices.Equal(l, k) {
		p.t.Fatalf("P12.5: %s: accesses %+v, want %+v", what, l, k)
	}
	if l, k := p.m.Events(), p.x.Events(); !slices.Equal(l, k) {
		p.t.Fatalf("P12.5: %s: events %+v, want %+v", what, l, k)
	}
}

// some picks one of a list.
func some[T any](r *rand.Rand, l ...T) T { return l[r.Intn(len(l))] }

// flip is true or false.
func flip(r *rand.Rand) bool { return r.Intn(2) == 0 }

// anyByte is a byte.
func anyByte(r *rand.Rand) uint8 { return uint8(r.Intn(256)) }

// anyBoard is a board behind some writes, all of them ahead of that cycle.
func anyBoard(r *rand.Rand, c api.Cart, cycle int) api.Board {
	b, _ := mapper.New(c)
	if cycle < 100 {
		return b
	}
	for i := range r.Intn(40) {
		b = mapper.Write(b, uint16(0x8000+r.Intn(0x8000)), some(r, anyByte(r), uint8(r.Intn(8))), anyByte(r), cycle-100+2*i)
	}
	return mapper.Clock(b, r.Intn(300))
}

// anyClock is a valid clock that may soon ask.
func anyClock(r *rand.Rand) api.Clock {
	k := api.Clock{
		Latch: uint16(some(r, r.Intn(65536), r.Intn(100))), Count: uint16(some(r, r.Intn(65536), r.Intn(100))), Hold: anyByte(r),
		Ctl: uint8(r.Intn(32)), Flag: r.Intn(4) == 0, Five: flip(r), Inhibit: flip(r), At: uint16(some(r, r.Intn(37282), 29700+r.Intn(130))), Wait: uint8(r.Intn(5)),
	}
	k.Pre = uint16(r.Intn([]int{1, 8, 64, 256}[k.Ctl>>3]))
	return k
}

// anyRaster is a valid raster, often one near the vertical blank.
func anyRaster(r *rand.Rand) api.Raster {
	x := api.Raster{Line: some(r, r.Intn(262), 239, 240, 260, 261), Dot: r.Intn(341), Odd: flip(r), Nmi: flip(r), Draw: flip(r)}
	at := x.Line*341 + x.Dot
	x.Vbl = at >= 241*341+1 && at <= 261*341 && flip(r)
	return x
}

// anyCpu is a valid CPU, whose code may lie anywhere: in the devices, too, where each fetch is an access of theirs.
func anyCpu(r *rand.Rand, latch bool) api.Cpu {
	pc := some(r, 0x8000+r.Intn(0x8000), 0x0200+r.Intn(0x400), 0x6000+r.Intn(0x2000), r.Intn(0x10000), 0x401c+r.Intn(0x1000))
	c := api.Cpu{Regs: api.Regs{A: anyByte(r), X: anyByte(r), Y: anyByte(r), S: anyByte(r), P: anyByte(r)&0xcf | 0x20, PC: uint16(pc)}}
	c.Take = some(r, 0, 0, 0, 1, 3, api.TakeNmi)
	if c.Take == api.TakeNmi && !latch {
		c.Take = api.TakeNone
	}
	c.Jam = c.Take == api.TakeNone && r.Intn(16) == 0
	return c
}

// anyState is a state that is valid for a cartridge.
func anyState(r *rand.Rand, c api.Cart) api.State {
	s := api.State{}
	m := &s.Mem
	m.Cycle = some(r, 0, 1, r.Intn(1000), 100000+r.Intn(1000000), 1<<40+r.Intn(1000))
	m.Board, m.Clock, m.Raster, m.Open, m.Nmi = anyBoard(r, c, m.Cycle), anyClock(r), anyRaster(r), anyByte(r), r.Intn(8) == 0
	m.Line = raster.Line(m.Raster)
	m.Pads = api.Pads{Strobe: flip(r), Held: [2]uint8{anyByte(r), anyByte(r)}, Shift: [2]uint8{anyByte(r), anyByte(r)}}
	if r.Intn(16) == 0 {
		m.Dma = api.Dma{On: true, Page: anyByte(r), Step: some(r, 0, 1, 2*r.Intn(257))}
	}
	lay(r, m.Ram[:])
	lay(r, m.Work[:])
	s.Cpu = anyCpu(r, m.Nmi)
	return s
}

// lay fills a list with what may be code: few of it jams, and its addresses are those where something lies.
func lay(r *rand.Rand, l []uint8) {
	for i := 0; i < len(l); i++ {
		l[i] = anyByte(r)
		for l[i]&0x1f == 0x12 || l[i]&0x9f == 0x02 {
			l[i] = anyByte(r)
			if r.Intn(100) == 0 {
				break
			}
		}
		if r.Intn(3) == 0 && i+2 < len(l) {
			l[i+1] = some(r, anyByte(r), uint8(r.Intn(8)), uint8(0x14+r.Intn(8)))
			l[i+2] = some(r, uint8(r.Intn(8)), 0x20, 0x40, 0x60+uint8(r.Intn(32)), 0x80+uint8(r.Intn(128)))
			i += 2
		}
	}
}

// filled is a cartridge with so many units of PRG and CHR, full of what may be code.
func filled(c api.Cart, prg, chr int) api.Cart {
	r := rand.New(rand.NewSource(int64(1000 + 100*c.Mapper + c.Sub + prg)))
	c.Prg, c.Chr = make([]byte, prg*api.PrgUnit), make([]byte, chr*api.ChrUnit)
	lay(r, c.Prg)
	for i := range c.Chr {
		c.Chr[i] = anyByte(r)
	}
	for bank := api.Bank8; bank <= len(c.Prg); bank += api.Bank8 {
		for v := bank - 6; v < bank; v += 2 {
			c.Prg[v], c.Prg[v+1] = anyByte(r), some(r, 0x03, 0x62, 0x80+uint8(r.Intn(128)))
		}
	}
	return c
}

// carts has each board.
func carts() []api.Cart {
	return []api.Cart{
		filled(api.Cart{PrgRam: 8192}, 2, 0),
		filled(api.Cart{Vert: true}, 1, 1),
		filled(api.Cart{Mapper: api.MMC1, PrgNv: 8192}, 16, 0),
		filled(api.Cart{Mapper: api.MMC1, Sub: 5, PrgRam: 1}, 2, 2),
		filled(api.Cart{Mapper: api.UxROM, Sub: 2, PrgRam: 8192}, 8, 0),
		filled(api.Cart{Mapper: api.CNROM, Sub: 2}, 2, 8),
		filled(api.Cart{Mapper: api.MMC3, PrgRam: 8192}, 8, 4),
		filled(api.Cart{Mapper: api.MMC3, Sub: 4, Four: true, PrgNv: 8192}, 2, 0),
		filled(api.Cart{Mapper: api.AxROM, Sub: 1, PrgRam: 8192}, 4, 0),
	}
}
