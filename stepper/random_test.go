package stepper_test

import (
	"math/rand"
	"slices"
	"testing"

	"tandem/api"
	"tandem/bus"
	"tandem/stepper"
)

// pair is a machine and the document's words in the second form, which are asked the same.
type pair struct {
	t    *testing.T
	r    *rand.Rand
	cart api.Cart
	m    *stepper.Machine
	x    *told
}

func (p *pair) agree(what string, got, want any) {
	p.t.Helper()
	if got != want {
		p.t.Fatalf("%s: %+v, want %+v", what, got, want)
	}
}

// tick is one cycle of both.
func (p *pair) tick() {
	p.t.Helper()
	a, ok := p.m.Tick()
	b, ok2 := p.x.Tick()
	if a != b || ok != ok2 || p.m.Step() != p.x.done {
		p.t.Fatalf("11.3: %+v, %v, Step() %d, want %+v, %v, %d (the CPU is %+v)", a, ok, p.m.Step(), b, ok2, p.x.done, p.x.Cpu)
	}
	if p.m.Step() == 0 {
		s, _ := p.m.State()
		p.agree("11.3, 11.4: the CPU", s.Cpu, p.x.Cpu)
	}
}

// calls is what may be asked of both.
var calls = []func(p *pair){
	func(p *pair) {
		for range p.r.Intn(200) {
			p.tick()
		}
	},
	func(p *pair) {
		n := some(p.r, -1, 0, 1, 2, 3, p.r.Intn(50), p.r.Intn(2000))
		p.m.Run(n)
		for range max(0, n) {
			p.x.Tick()
		}
	},
	func(p *pair) {
		turn := api.Turn{Budget: uint32(some(p.r, 0, 1, 7, p.r.Intn(100), p.r.Intn(3000))), One: anyByte(p.r), Two: anyByte(p.r), Reset: p.r.Intn(8) == 0, Flush: flip(p.r)}
		n, e := p.m.Play(turn)
		n2, e2 := p.x.Play(turn)
		p.agree("11.5: Play", n, n2)
		p.agree("11.5: Play", e, e2)
	},
	func(p *pair) {
		one, two := anyByte(p.r), anyByte(p.r)
		p.m.Press(one, two)
		p.x.bus.Press(one, two)
	},
	func(p *pair) {
		if p.r.Intn(4) == 0 {
			p.agree("11.5: Reset", p.m.Reset(), p.x.Reset())
		}
	},
	func(p *pair) {
		if l, k := p.m.Log(), p.x.bus.Log(); !slices.Equal(l, k) {
			p.t.Fatalf("11.5: Log: %+v, want %+v", l, k)
		}
		if l, k := p.m.Events(), p.x.Events(); !slices.Equal(l, k) {
			p.t.Fatalf("11.5: Events: %+v, want %+v", l, k)
		}
	},
	func(p *pair) { // a machine that goes on from the state is the same one
		if s, ok := p.m.State(); ok && flip(p.r) {
			p.m, p.x = from(p.t, p.cart, s), tell(p.t, p.cart, s)
		}
	},
}

// Any calls, one behind the other: the same answers, the same state, and always a valid one.
func TestAnyCalls(t *testing.T) {
	r := rand.New(rand.NewSource(1100))
	for _, c := range carts() {
		for i := range 30 {
			s := anyState(r, c)
			if i%5 == 4 {
				s.Mem.Cycle = api.MaxCycle - r.Intn(3000)
			}
			p := &pair{t, r, c, from(t, c, s), tell(t, c, s)}
			for range 60 {
				calls[r.Intn(len(calls))](p)
				same(t, "11.2: Mem", p.m.Mem(), p.x.bus.Mem())
				a, ok := p.m.State()
				b, ok2 := p.x.State()
				if a != b || ok != ok2 {
					t.Fatalf("11.2: State: %+v, %v, want %+v, %v", a.Cpu, ok, b.Cpu, ok2)
				}
				if ok && (a.Cpu.Regs.P&0x30 != 0x20 || a.Cpu.Take > 3 || a.Cpu.Jam && a.Cpu.Take != 0 || a.Cpu.Take == 2 && !a.Mem.Nmi || !bus.Valid(c, a.Mem)) {
					t.Fatalf("11.1: a state that isn't valid: %+v", a.Cpu)
				}
			}
		}
	}
}

// From power on, each machine for a few frames.
func TestFromPowerOn(t *testing.T) {
	r := rand.New(rand.NewSource(1101))
	for _, c := range carts() {
		m := begun(t, c)
		p := &pair{t, r, c, m, tell(t, c, stateOf(t, m))}
		for range 30000 {
			p.tick()
			if s, ok := m.State(); ok && s.Cpu.Jam {
				calls[5](p)
				p.agree("11.5: Reset", m.Reset(), p.x.Reset())
				p.m.Press(3, 5)
				p.x.bus.Press(3, 5)
			}
		}
		calls[5](p)
		same(t, "11.2: Mem", m.Mem(), p.x.bus.Mem())
	}
}
