package bus_test

import (
	"math/rand"
	"slices"
	"testing"

	"tandem/api"
	"tandem/bus"
)

// pair is a bus and the chapter's words in the second form, which are asked the same.
type pair struct {
	t    *testing.T
	r    *rand.Rand
	cart api.Cart
	bus  *bus.Bus
	told *told
}

// addr is an address of which most have something to them.
func (p *pair) addr() uint16 {
	return some(p.r, edges[p.r.Intn(len(edges))], uint16(p.r.Intn(65536)), uint16(0x2000+p.r.Intn(8)), uint16(0x4014+p.r.Intn(8)))
}

func (p *pair) agree(what string, got, want any) {
	p.t.Helper()
	if got != want {
		p.t.Fatalf("%s: %+v, want %+v", what, got, want)
	}
}

// calls is what may be asked of both.
var calls = []func(p *pair){
	func(p *pair) {
		addr := p.addr()
		p.agree("P10.4: Read", p.bus.Read(addr), p.told.Read(addr))
	},
	func(p *pair) {
		addr, v := p.addr(), anyByte(p.r)
		p.bus.Write(addr, v)
		p.told.Write(addr, v)
	},
	func(p *pair) {
		addr := p.addr()
		p.agree("P10.5: Peek", p.bus.Peek(addr), p.told.Peek(addr))
		p.agree("P10.12: Load", p.bus.Load(addr), p.told.Load(addr))
	},
	func(p *pair) {
		addr, v := p.addr(), anyByte(p.r)
		p.bus.Store(addr, v)
		p.told.Store(addr, v)
	},
	func(p *pair) {
		n := some(p.r, -1, 0, 1, p.r.Intn(10), p.r.Intn(500), p.r.Intn(5000))
		p.bus.Idle(n)
		p.told.Idle(n)
	},
	func(p *pair) {
		n, v := some(p.r, 0, 1, p.r.Intn(70)), anyByte(p.r)
		p.bus.Settle(n, v)
		p.told.Settle(n, v)
	},
	func(p *pair) {
		for range some(p.r, 1, 2, 3, 600) {
			pc := p.addr()
			p.agree("P10.10: DmaStep", p.bus.DmaStep(pc), p.told.DmaStep(pc))
			p.agree("P10.10: Dma", p.bus.Dma(), p.told.Dma.On)
		}
	},
	func(p *pair) {
		addr := p.addr()
		tag, place := p.told.where(addr)
		p.agree("P10.11: Plain", p.bus.Plain(addr, false), p.told.Plain(addr, false))
		p.agree("P10.11: Plain", p.bus.Plain(addr, true), p.told.Plain(addr, true))
		p.agree("P10.14: Tag", p.bus.Tag(addr), tag)
		p.agree("P10.14: Place", p.bus.Place(addr), place)
	},
	func(p *pair) {
		nmi, irq := p.bus.Poll()
		n, i := p.told.Poll()
		p.agree("P10.8: Poll", [2]bool{nmi, irq}, [2]bool{n, i})
		p.agree("P10.9: Horizon", min(p.bus.Horizon(), 300), p.told.Horizon(300))
		if p.r.Intn(2) == 0 {
			p.bus.Ack()
			p.told.Nmi = false
		}
	},
	func(p *pair) {
		if l, m := p.bus.Log(), p.told.Log(); !slices.Equal(l, m) {
			p.t.Fatalf("P10.15: Log: %+v, want %+v", l, m)
		}
		if l, m := p.bus.Stores(), p.told.Stores(); !slices.Equal(l, m) {
			p.t.Fatalf("P10.15: Stores: %v, want %v", l, m)
		}
	},
	func(p *pair) {
		one, two := anyByte(p.r), anyByte(p.r)
		p.bus.Press(one, two)
		p.told.Pads.Held = [2]uint8{one, two}
		if p.told.Pads.Strobe {
			p.told.Pads.Shift = p.told.Pads.Held
		}
	},
	func(p *pair) {
		if p.r.Intn(4) == 0 {
			p.bus.Reset()
			p.told.Reset()
		}
	},
	func(p *pair) {
		if p.r.Intn(4) == 0 { // a bus that goes on from the memory is the same bus
			p.bus, p.told = from(p.t, p.cart, p.bus.Mem()), tell(p.cart, p.told.Mem)
		}
	},
}

// Any calls, one behind the other: the same answers, the same memory, and always a valid one.
func TestAnyCalls(t *testing.T) {
	r := rand.New(rand.NewSource(1000))
	for i, c := range carts() {
		for range 12 {
			m := anyMem(r, c)
			if flip(r) {
				m = fresh(t, c).Mem()
			}
			if r.Intn(4) == 0 {
				m.Cycle = api.EndCycle - r.Intn(2000)
			}
			p := &pair{t, r, c, from(t, c, m), tell(c, m)}
			for n := range 200 {
				k := r.Intn(len(calls))
				calls[k](p)
				if p.bus.Mem() != p.told.Mem {
					t.Fatalf("cartridge %d, call %d of kind %d: %s", i, n, k, differ(p.bus.Mem(), p.told.Mem))
				}
				p.agree("P10.7: Cycle", p.bus.Cycle(), p.told.Cycle)
				if !bus.Valid(c, p.bus.Mem()) {
					t.Fatalf("P10.17: cartridge %d: a memory that isn't valid", i)
				}
			}
		}
	}
}
