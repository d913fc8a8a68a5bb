package interp_test

import (
	"math/rand"
	"testing"

	"tandem/api"
	"tandem/bus"
	"tandem/interp"
	"tandem/stepper"
)

// Any state that From takes, Step by Step beside the stepper.
func TestAnyStateInTandem(t *testing.T) {
	r := rand.New(rand.NewSource(1201))
	for _, c := range carts() {
		for i := range 60 {
			s := anyState(r, c)
			if i%6 == 5 {
				s.Mem.Cycle = api.MaxCycle - r.Intn(300)
			}
			p := beside(t, c, s)
			for range 120 {
				p.step("any state")
			}
		}
	}
}

// From power on, each board for a few thousand steps; the button wakes what jams.
func TestPowerOnInTandem(t *testing.T) {
	for _, c := range carts() {
		p := both(t, c)
		p.agree("power on")
		for range 5000 {
			p.step("from power on")
			if p.m.Cpu().Jam {
				p.m.Reset()
				p.x.Reset()
				p.m.Press(3, 5)
				p.x.Press(3, 5)
				p.agree("the button")
			}
		}
	}
}

// Every opcode at pages' ends, in the stack, and where nothing answers, with any registers, interrupts being near.
func TestAnyInstructionInTandem(t *testing.T) {
	r := rand.New(rand.NewSource(1202))
	c := console()
	base := begun(t, c).State()
	for code := range 256 {
		for range 24 {
			s := base
			lay(r, s.Mem.Ram[:])
			s.Mem.Clock, s.Mem.Raster = anyClock(r), api.Raster{Line: 240, Dot: 330 + r.Intn(11), Nmi: flip(r)}
			s.Mem.Cycle, s.Mem.Open = 100+r.Intn(2), uint8(code)
			pc := some(r, 0x00fd, 0x01fb, 0x07fe, 0x0300, 0x1ffe, 0x4ffe)
			s.Mem.Ram[pc%2048] = uint8(code)
			s.Cpu = api.Cpu{Regs: api.Regs{A: anyByte(r), X: anyByte(r), Y: anyByte(r), S: some(r, anyByte(r), 0, 1, 0xff, 0xfe), P: anyByte(r)&0xcf | 0x20, PC: uint16(pc)}}
			p := beside(t, c, s)
			for range 3 {
				p.step("any instruction")
			}
		}
	}
}

// caller makes any calls on both machines.
type caller struct {
	*pair
	r *rand.Rand
}

// calls is what may be asked.
var calls = []func(p *caller){
	func(p *caller) {
		for range p.r.Intn(60) {
			p.step("any calls")
		}
	},
	func(p *caller) {
		turn := api.Turn{Budget: uint32(some(p.r, 0, 1, 7, p.r.Intn(100), p.r.Intn(2000))), One: anyByte(p.r), Two: anyByte(p.r), Reset: p.r.Intn(8) == 0, Flush: flip(p.r)}
		n, e := p.m.Play(turn)
		if k, e2 := p.x.Play(turn); n != k || e != e2 {
			p.t.Fatalf("P12.6: Play(%+v) = %d, %d, the stepper's %d, %d", turn, n, e, k, e2)
		}
	},
	func(p *caller) {
		one, two := anyByte(p.r), anyByte(p.r)
		p.m.Press(one, two)
		p.x.Press(one, two)
	},
	func(p *caller) {
		if p.r.Intn(4) == 0 && p.m.Reset() != p.x.Reset() {
			p.t.Fatal("P12.6: Reset")
		}
	},
	func(p *caller) { // a machine that goes on from the state is the same one
		p.agree("any calls")
		p.m = from(p.t, p.cart, p.m.State())
	},
	func(p *caller) { // another CPU
		latch, _ := p.m.Bus().Poll()
		p.agree("any calls")
		p.m.SetCpu(anyCpu(p.r, latch))
		p.follow()
	},
	func(p *caller) { // something is done to the bus
		p.agree("any calls")
		b := p.m.Bus()
		switch p.r.Intn(4) {
		case 0:
			b.Write(uint16(p.r.Intn(0x10000)), anyByte(p.r))
		case 1:
			b.Read(uint16(p.r.Intn(0x10000)))
		case 2:
			b.Idle(p.r.Intn(100))
		case 3:
			b.Store(uint16(p.r.Intn(0x10000)), anyByte(p.r))
		}
		b.Log()
		p.follow()
	},
}

// follow puts the stepper where the machine is.
func (p *caller) follow() {
	p.t.Helper()
	x, e := stepper.From(p.cart, p.m.State())
	if e != api.OK {
		p.t.Fatalf("P12.5: a state that is not valid: %+v", p.m.Cpu())
	}
	p.x = x
}

// Any calls, one behind the other: the same answers, the same states, and always valid ones.
func TestAnyCallsInTandem(t *testing.T) {
	r := rand.New(rand.NewSource(1203))
	for _, c := range carts() {
		for i := range 25 {
			s := anyState(r, c)
			if i%5 == 4 {
				s.Mem.Cycle = api.MaxCycle - r.Intn(3000)
			}
			p := &caller{beside(t, c, s), r}
			for range 50 {
				calls[r.Intn(len(calls))](p)
				p.agree("any calls")
				a := p.m.State()
				if a.Cpu != p.m.Cpu() || a.Mem != p.m.Bus().Mem() {
					t.Fatalf("P12.2: Cpu() is %+v, State's is %+v", p.m.Cpu(), a.Cpu)
				}
				if a.Cpu.Regs.P&0x30 != 0x20 || a.Cpu.Take > 3 || a.Cpu.Jam && a.Cpu.Take != 0 || a.Cpu.Take == 2 && !a.Mem.Nmi || !bus.Valid(c, a.Mem) {
					t.Fatalf("P4: a state that isn't valid: %+v", a.Cpu)
				}
			}
		}
	}
}

// Machines have nothing in common: two that go on by turns are as one alone each.
func TestMachinesBesideEachOther(t *testing.T) {
	list := carts()
	var alone, mixed []*interp.Machine
	for _, c := range list {
		m := begun(t, c)
		for range 1000 {
			m.Step()
		}
		alone, mixed = append(alone, m), append(mixed, begun(t, c))
	}
	for range 1000 {
		for _, m := range mixed {
			m.Step()
		}
	}
	for i := range list {
		same(t, "P2: machines beside each other", mixed[i].State(), alone[i].State())
	}
}
