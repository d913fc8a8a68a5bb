package stepper_test

import (
	"fmt"
	"math/rand"
	"testing"

	"tandem/api"
	"tandem/mapper"
	"tandem/raster"
	"tandem/stepper"
)

// console is a cartridge of 32 KiB of NOPs with code at $8000. The vectors are $9000 (NMI), $8000 (reset), $A000 (IRQ).
func console(code ...uint8) api.Cart {
	prg := make([]byte, 2*api.PrgUnit)
	for i := range prg {
		prg[i] = 0xea
	}
	copy(prg, code)
	copy(prg[0x7ffa:], []byte{0x00, 0x90, 0x00, 0x80, 0x00, 0xa0})
	return api.Cart{PrgRam: 8192, Prg: prg}
}

// half is the same with 16 KiB.
func half(code ...uint8) api.Cart {
	c := console()
	c.Prg = c.Prg[api.PrgUnit:]
	copy(c.Prg, code)
	return c
}

// begun is a new machine.
func begun(t *testing.T, c api.Cart) *stepper.Machine {
	t.Helper()
	m, e := stepper.New(c)
	if e != api.OK || m == nil {
		t.Fatalf("11.1: New of mapper %d: %d", c.Mapper, e)
	}
	return m
}

// from is a machine that goes on from a state.
func from(t *testing.T, c api.Cart, s api.State) *stepper.Machine {
	t.Helper()
	m, e := stepper.From(c, s)
	if e != api.OK || m == nil {
		t.Fatalf("11.1: From of %+v: %d", s.Cpu, e)
	}
	return m
}

// standing is the state of a machine that stands at $8000, as if a reset lay behind it, with something turned in it.
func standing(t *testing.T, c api.Cart, turn func(s *api.State)) api.State {
	t.Helper()
	s := stateOf(t, begun(t, c))
	s.Cpu = api.Cpu{Regs: api.Regs{S: 0xfd, P: 0x24, PC: 0x8000}}
	turn(&s)
	s.Mem.Line = raster.Line(s.Mem.Raster)
	return s
}

// at is a machine with that state.
func at(t *testing.T, c api.Cart, turn func(s *api.State)) *stepper.Machine {
	t.Helper()
	return from(t, c, standing(t, c, turn))
}

// as turns nothing.
func as(*api.State) {}

// stateOf is the state of a machine that must be at a boundary.
func stateOf(t *testing.T, m *stepper.Machine) api.State {
	t.Helper()
	s, ok := m.State()
	if !ok {
		t.Fatalf("11.2: no state, Step() is %d", m.Step())
	}
	return s
}

// touch is an access as a test tells it. What a read gives is not asked where val is -1.
type touch struct {
	addr, val int
	write     bool
}

func rd(addr int) touch       { return touch{addr: addr, val: -1} }
func got(addr, val int) touch { return touch{addr: addr, val: val} }
func wr(addr, val int) touch  { return touch{addr: addr, val: val, write: true} }

// fits tells whether an access is the one that was told.
func (w touch) fits(a api.Access) bool {
	return int(a.Addr) == w.addr && a.Write == w.write && (w.val == -1 || int(a.Val) == w.val)
}

// does asks that one instruction or entry makes these accesses, one a cycle, and that all calls tell the cycles rightly.
func does(t *testing.T, what string, m *stepper.Machine, want ...touch) {
	t.Helper()
	for i, w := range want {
		cycle := m.Mem().Cycle
		a, ok := m.Tick()
		if !ok || !w.fits(a) || a.Cycle != cycle {
			t.Errorf("%s: cycle %d is %+v, %v, want %+v in %d", what, i+1, a, ok, w, cycle)
		}
		if now := m.Mem(); now.Cycle != cycle+1 || now.Open != a.Val {
			t.Errorf("%s: behind cycle %d: Cycle %d, Open %#x", what, i+1, now.Cycle, now.Open)
		}
		step := (i + 1) % len(want)
		if s, ok := m.State(); m.Step() != step || ok != (step == 0) || !ok && s != (api.State{}) {
			t.Fatalf("%s: behind cycle %d of %d Step() is %d, and State answers %v", what, i+1, len(want), m.Step(), ok)
		}
	}
}

// ends goes on to the next boundary, and tells the accesses.
func ends(m *stepper.Machine) []api.Access {
	var l []api.Access
	for {
		if a, ok := m.Tick(); ok {
			l = append(l, a)
		}
		if m.Step() == 0 {
			return l
		}
	}
}

// takes asks for Take at the next boundary.
func takes(t *testing.T, what string, m *stepper.Machine, want uint8) {
	t.Helper()
	ends(m)
	if s := stateOf(t, m); s.Cpu.Take != want {
		t.Errorf("%s: Take is %d, want %d", what, s.Cpu.Take, want)
	}
}

// registers asks for the registers at a boundary.
func registers(t *testing.T, what string, m *stepper.Machine, want api.Regs) {
	t.Helper()
	if s := stateOf(t, m); s.Cpu.Regs != want {
		t.Errorf("%s: %+v, want %+v", what, s.Cpu.Regs, want)
	}
}

// events asks for what has come since the last time.
func events(t *testing.T, what string, m *stepper.Machine, want ...api.Event) {
	t.Helper()
	l := m.Events()
	if fmt.Sprint(l) != fmt.Sprint(want) {
		t.Errorf("%s: events %+v, want %+v", what, l, want)
	}
}

// same holds two memories against each other.
func same(t *testing.T, what string, got, want api.Mem) {
	t.Helper()
	if got == want {
		return
	}
	for i := range got.Ram {
		if got.Ram[i] != want.Ram[i] {
			t.Fatalf("%s: Ram[%#x] is %#x, want %#x", what, i, got.Ram[i], want.Ram[i])
		}
	}
	for i := range got.Work {
		if got.Work[i] != want.Work[i] {
			t.Fatalf("%s: Work[%#x] is %#x, want %#x", what, i, got.Work[i], want.Work[i])
		}
	}
	small := func(m api.Mem) string {
		return fmt.Sprintf("%+v %+v %+v %+v %+v open %d cycle %d line %v nmi %v", m.Board, m.Clock, m.Raster, m.Pads, m.Dma, m.Open, m.Cycle, m.Line, m.Nmi)
	}
	t.Fatalf("%s: %s, want %s (the same video memory: %v)", what, small(got), small(want), got.Video == want.Video)
}

// irqIn lets the timer run out in the cycle of that number from now on, the next one being 0.
func irqIn(s *api.State, k int) {
	s.Mem.Clock = api.Clock{Count: uint16(k), Latch: 0xffff, Ctl: 3}
}

// nmiIn lets the NMI line rise in the cycle of that number from now on.
func nmiIn(s *api.State, k int) {
	place := 241*341 + 1 - 3*(k+1)
	s.Mem.Raster = api.Raster{Line: place / 341, Dot: place % 341, Nmi: true}
}

// some picks one of a list.
func some[T any](r *rand.Rand, l ...T) T { return l[r.Intn(len(l))] }

// flip is true or false.
func flip(r *rand.Rand) bool { return r.Intn(2) == 0 }

// anyByte is a byte.
func anyByte(r *rand.Rand) uint8 { return uint8(r.Intn(256)) }

// anyBoard is a board behind some writes, all of them ahead of that cycle.
func anyBoard(r *rand.Rand, c api.Cart, cycle int) api.Board {
	b, _ := mapper.New(c)
	if cycle < 100 {
		return b
	}
	for i := range r.Intn(40) {
		b = mapper.Write(b, uint16(0x8000+r.Intn(0x8000)), some(r, anyByte(r), uint8(r.Intn(8))), anyByte(r), cycle-100+2*i)
	}
	return mapper.Clock(b, r.Intn(300))
}

// anyClock is a valid clock that may soon ask.
func anyClock(r *rand.Rand) api.Clock {
	k := api.Clock{
		Latch: uint16(some(r, r.Intn(65536), r.Intn(100))), Count: uint16(some(r, r.Intn(65536), r.Intn(100))), Hold: anyByte(r),
		Ctl: uint8(r.Intn(32)), Flag: r.Intn(4) == 0, Five: flip(r), Inhibit: flip(r), At: uint16(some(r, r.Intn(37282), 29700+r.Intn(130))), Wait: uint8(r.Intn(5)),
	}
	k.Pre = uint16(r.Intn([]int{1, 8, 64, 256}[k.Ctl>>3]))
	return k
}

// anyRaster is a valid raster, often one near the vertical blank.
func anyRaster(r *rand.Rand) api.Raster {
	x := api.Raster{Line: some(r, r.Intn(262), 239, 240, 260, 261), Dot: r.Intn(341), Odd: flip(r), Nmi: flip(r), Draw: flip(r)}
	at := x.Line*341 + x.Dot
	x.Vbl = at >= 241*341+1 && at <= 261*341 && flip(r)
	return x
}

// anyState is a state that is valid for a cartridge.
func anyState(r *rand.Rand, c api.Cart) api.State {
	s := api.State{Cpu: api.Cpu{Regs: api.Regs{A: anyByte(r), X: anyByte(r), Y: anyByte(r), S: anyByte(r), P: anyByte(r)&0xcf | 0x20, PC: uint16(some(r, 0x8000+r.Intn(0x8000), 0x0200+r.Intn(0x400)))}}}
	m := &s.Mem
	m.Cycle = some(r, 0, 1, r.Intn(1000), 100000+r.Intn(1000000), 1<<40+r.Intn(1000))
	m.Board, m.Clock, m.Raster, m.Open, m.Nmi = anyBoard(r, c, m.Cycle), anyClock(r), anyRaster(r), anyByte(r), r.Intn(8) == 0
	m.Line = raster.Line(m.Raster)
	m.Pads = api.Pads{Strobe: flip(r), Held: [2]uint8{anyByte(r), anyByte(r)}, Shift: [2]uint8{anyByte(r), anyByte(r)}}
	if r.Intn(16) == 0 {
		m.Dma = api.Dma{On: true, Page: anyByte(r), Step: 2 * r.Intn(257)}
	}
	lay(r, m.Ram[:])
	lay(r, m.Work[:])
	s.Cpu.Take = some(r, 0, 0, 0, 1, 3, api.TakeNmi)
	if s.Cpu.Take == api.TakeNmi && !m.Nmi {
		s.Cpu.Take = api.TakeNone
	}
	s.Cpu.Jam = s.Cpu.Take == api.TakeNone && r.Intn(16) == 0
	return s
}

// lay fills a list with what may be code: few of it jams, and its addresses are those where something lies.
func lay(r *rand.Rand, l []uint8) {
	for i := 0; i < len(l); i++ {
		l[i] = anyByte(r)
		for l[i]&0x1f == 0x12 || l[i]&0x9f == 0x02 {
			l[i] = anyByte(r)
			if r.Intn(100) == 0 {
				break
			}
		}
		if r.Intn(3) == 0 && i+2 < len(l) {
			l[i+1] = some(r, anyByte(r), uint8(r.Intn(8)), uint8(0x14+r.Intn(8)))
			l[i+2] = some(r, uint8(r.Intn(8)), 0x20, 0x40, 0x60+uint8(r.Intn(32)), 0x80+uint8(r.Intn(128)))
			i += 2
		}
	}
}

// filled is a cartridge with so many units of PRG and CHR, full of what may be code.
func filled(c api.Cart, prg, chr int) api.Cart {
	r := rand.New(rand.NewSource(int64(100*c.Mapper + c.Sub + prg)))
	c.Prg, c.Chr = make([]byte, prg*api.PrgUnit), make([]byte, chr*api.ChrUnit)
	lay(r, c.Prg)
	for i := range c.Chr {
		c.Chr[i] = anyByte(r)
	}
	for bank := api.Bank8; bank <= len(c.Prg); bank += api.Bank8 {
		for v := bank - 6; v < bank; v += 2 {
			c.Prg[v], c.Prg[v+1] = anyByte(r), some(r, 0x03, 0x62, 0x80+uint8(r.Intn(128)))
		}
	}
	return c
}

// carts has each board.
func carts() []api.Cart {
	return []api.Cart{
		filled(api.Cart{PrgRam: 8192}, 2, 0),
		filled(api.Cart{Vert: true}, 1, 1),
		filled(api.Cart{Mapper: api.MMC1, PrgNv: 8192}, 16, 0),
		filled(api.Cart{Mapper: api.MMC1, Sub: 5, PrgRam: 1}, 2, 2),
		filled(api.Cart{Mapper: api.UxROM, Sub: 2, PrgRam: 8192}, 8, 0),
		filled(api.Cart{Mapper: api.CNROM, Sub: 2}, 2, 8),
		filled(api.Cart{Mapper: api.MMC3, PrgRam: 8192}, 8, 4),
		filled(api.Cart{Mapper: api.MMC3, Sub: 4, Four: true, PrgNv: 8192}, 2, 0),
		filled(api.Cart{Mapper: api.AxROM, Sub: 1, PrgRam: 8192}, 4, 0),
	}
}
