package dbt_test

import (
	"math/rand"
	"testing"

	"tandem/api"
)

// Any state that From takes, pass by pass beside the stepper and the interpreter.
func TestAnyStateInTandem(t *testing.T) {
	r := rand.New(rand.NewSource(1501))
	total := api.Stats{}
	for _, c := range carts() {
		for i := range 60 {
			s := anyState(r, c)
			if i%10 == 9 {
				s.Mem.Cycle = api.MaxCycle - r.Intn(300)
			}
			g := beside(t, c, s, anySize(r), anyLimit(r))
			for range 150 {
				g.pass("any state", anyLeft(r))
			}
			g.holds("any state")
			total = added(total, g.m.Stats())
		}
	}
	enough(t, total, api.Stats{Steps: 10000, Blocks: 10000, Hits: 3000, Misses: 8000, Evicted: 2000, Dropped: 500, Guards: 2000, Stores: 60})
}

// From power on, each board for long; the button wakes what jams.
func TestPowerOnInTandem(t *testing.T) {
	r := rand.New(rand.NewSource(1502))
	total := api.Stats{}
	for _, c := range carts() {
		for range 4 {
			g := powered(t, c, anySize(r), anyLimit(r))
			g.agree("power on")
			for range 2500 {
				g.pass("from power on", some(r, 1000, anyLeft(r)))
				if g.y.Cpu().Jam {
					g.reset("the button")
					g.press("the button", 3, 5)
				}
			}
			g.holds("from power on")
			total = added(total, g.m.Stats())
		}
	}
	enough(t, total, api.Stats{Steps: 10000, Blocks: 10000, Hits: 10000, Misses: 4000, Evicted: 1000, Guards: 2000})
}

// acts is what may be asked of all of them.
var acts = []func(g *group, r *rand.Rand){
	func(g *group, r *rand.Rand) {
		for range r.Intn(40) {
			g.pass("any calls", anyLeft(r))
		}
	},
	func(g *group, r *rand.Rand) {
		g.play("any calls", api.Turn{Budget: uint32(some(r, 0, 1, 7, r.Intn(100), r.Intn(3000))), One: anyByte(r), Two: anyByte(r), Reset: r.Intn(8) == 0, Flush: r.Intn(4) == 0})
	},
	func(g *group, r *rand.Rand) {
		if r.Intn(4) == 0 || g.y.Cpu().Jam {
			g.reset("any calls")
		}
	},
	func(g *group, r *rand.Rand) { g.press("any calls", anyByte(r), anyByte(r)) },
	func(g *group, r *rand.Rand) {
		if r.Intn(3) == 0 {
			g.flush("any calls")
		}
	},
	func(g *group, r *rand.Rand) {
		pcs := make([]uint16, r.Intn(40))
		for i := range pcs {
			pcs[i] = some(r, anyTarget(r), anyTarget(r), uint16(r.Intn(0x10000)), g.y.Cpu().Regs.PC)
		}
		g.warm("any calls", pcs, 1+r.Intn(api.MaxWork))
	},
	func(g *group, r *rand.Rand) { // a machine that goes on from the state is the same one, with an empty cache
		if r.Intn(4) > 0 {
			return
		}
		g.holds("any calls")
		*g = *beside(g.t, g.cart, g.m.State(), anySize(r), anyLimit(r))
	},
}

// Any calls, one behind the other, with devices, interrupts, resets, flushes and warmings at drawn moments.
func TestAnyCallsInTandem(t *testing.T) {
	r := rand.New(rand.NewSource(1503))
	for _, c := range carts() {
		for i := range 30 {
			s := anyState(r, c)
			if i%5 == 4 {
				s.Mem.Cycle = api.MaxCycle - r.Intn(3000)
			}
			g := beside(t, c, s, anySize(r), anyLimit(r))
			for range 60 {
				acts[r.Intn(len(acts))](g, r)
			}
			g.holds("any calls")
		}
	}
}

// added is the sums of counters.
func added(a, b api.Stats) api.Stats {
	return api.Stats{
		Steps: a.Steps + b.Steps, Blocks: a.Blocks + b.Blocks, Hits: a.Hits + b.Hits, Misses: a.Misses + b.Misses, Evicted: a.Evicted + b.Evicted,
		Dropped: a.Dropped + b.Dropped, Guards: a.Guards + b.Guards, Stores: a.Stores + b.Stores, Flushes: a.Flushes + b.Flushes,
	}
}

// enough asks whether what was drawn had enough of everything to tell.
func enough(t *testing.T, got, least api.Stats) {
	t.Helper()
	if got.Steps < least.Steps || got.Blocks < least.Blocks || got.Hits < least.Hits || got.Misses < least.Misses || got.Evicted < least.Evicted ||
		got.Dropped < least.Dropped || got.Guards < least.Guards || got.Stores < least.Stores || got.Flushes < least.Flushes {
		t.Errorf("%+v: too few to tell, want %+v", got, least)
	}
}
