package dbt_test

import (
	"slices"
	"testing"

	"tandem/api"
	"tandem/dbt"
	"tandem/interp"
	"tandem/stepper"
)

// group is the three machines and the dispatcher's second form, one beside the other.
type group struct {
	t      *testing.T
	cart   api.Cart
	size   int
	x      *stepper.Machine
	y      *interp.Machine
	m      *dbt.Machine
	w      *told
	passes int         // that were not without a cycle
	all    []api.Entry // all entries so far
	policy bool        // it was flushed or warmed
	played bool        // so that passes were not all counted
}

// beside is all of them at a state.
func beside(t *testing.T, c api.Cart, s api.State, size, limit int) *group {
	t.Helper()
	x, e := stepper.From(c, s)
	if e != api.OK {
		t.Fatalf("the stepper refuses %+v: %d", s.Cpu, e)
	}
	y, _ := interp.From(c, s)
	return &group{t: t, cart: c, size: size, x: x, y: y, m: from(t, c, s, size, limit), w: toldFrom(t, c, s, size, limit)}
}

// powered is all of them as the power comes on.
func powered(t *testing.T, c api.Cart, size, limit int) *group {
	t.Helper()
	m := begun(t, c, size, limit)
	g := beside(t, c, m.State(), size, limit)
	g.m = m
	return g
}

// pass is a pass of the one, and as many cycles of the others: all of them are at a boundary there.
func (g *group) pass(what string, left int) int {
	g.t.Helper()
	cycle := g.y.Bus().Cycle()
	n := g.m.Pass(left)
	if n > 0 {
		g.passes++
	}
	if (n == 0) != (left < 1 || cycle >= api.MaxCycle) || n-7 > max(left, 0) {
		g.t.Fatalf("P15.2: %s: Pass(%d) in cycle %d answers %d", what, left, cycle, n)
	}
	list := g.m.Entries()
	g.fresh(what, list)
	if k := g.w.pass(left); k != n {
		g.t.Fatalf("P15.2: %s: Pass(%d) in cycle %d answers %d, want %d", what, left, cycle, n, k)
	}
	g.x.Run(n)
	for k := 0; k < n; {
		if k += g.y.Step(); k > n {
			g.t.Fatalf("P15.7: %s: Pass(%d) in cycle %d answers %d, where no boundary is", what, left, cycle, n)
		}
	}
	g.inside(what, list)
	g.agree(what)
	return n
}

// fresh asks of a pass's entry, ahead of the same pass of the second form, whether its bytes are those that lie there.
func (g *group) fresh(what string, list []api.Entry) {
	g.t.Helper()
	if len(list) > 1 {
		g.t.Fatalf("P15.2: %s: a pass with %d entries", what, len(list))
	}
	for _, e := range list {
		for i := range len(e.Bytes) {
			if b := g.y.Bus().Peek(e.PC + uint16(i)); b != e.Bytes[i] {
				g.t.Fatalf("P15.8: %s: the block at $%04X is entered with byte %d %#x, where %#x lies", what, e.PC, i, e.Bytes[i], b)
			}
		}
		if e.Tag != g.y.Bus().Tag(e.PC) || e.Cycle != g.y.Bus().Cycle() || e.PC != g.y.Cpu().Regs.PC {
			g.t.Fatalf("P15.2: %s: entry %+v in cycle %d at $%04X", what, e, g.y.Bus().Cycle(), g.y.Cpu().Regs.PC)
		}
	}
}

// inside holds the counters and the entries against the second form's.
func (g *group) inside(what string, list []api.Entry) {
	g.t.Helper()
	if !slices.Equal(list, g.w.entries) {
		g.t.Fatalf("P15.2: %s: entries %+v, want %+v", what, list, g.w.entries)
	}
	g.all = append(g.all, list...)
	g.w.entries = nil
	stats(g.t, "P15.2: "+what, g.m, g.w.stats)
}

// agree holds the states and the logs against each other.
func (g *group) agree(what string) {
	g.t.Helper()
	s, ok := g.x.State()
	if !ok {
		g.t.Fatalf("P15.7: %s: the stepper is at no boundary", what)
	}
	got := g.m.State()
	same(g.t, "P15.7: "+what, &got, &s)
	if g.y.Cpu() != s.Cpu || g.y.Bus().Cycle() != s.Mem.Cycle { // the rest is the tests' of interp
		g.t.Fatalf("P15.7: %s: the interpreter has %+v in cycle %d, the stepper %+v in cycle %d", what, g.y.Cpu(), g.y.Bus().Cycle(), s.Cpu, s.Mem.Cycle)
	}
	if l, k, j := g.m.Log(), g.x.Log(), g.y.Log(); !slices.Equal(l, k) || !slices.Equal(l, j) {
		g.t.Fatalf("P15.7: %s: accesses %+v, the stepper's %+v, the interpreter's %+v", what, l, k, j)
	}
	if l, k, j := g.m.Events(), g.x.Events(), g.y.Events(); !slices.Equal(l, k) || !slices.Equal(l, j) {
		g.t.Fatalf("P15.7: %s: events %+v, the stepper's %+v, the interpreter's %+v", what, l, k, j)
	}
}

// play is a turn of each.
func (g *group) play(what string, turn api.Turn) int {
	g.t.Helper()
	n, e := g.m.Play(turn)
	if k, e2 := g.x.Play(turn); k != n || e2 != e {
		g.t.Fatalf("P15.3: %s: Play(%+v) = %d, %d, the stepper's %d, %d", what, turn, n, e, k, e2)
	}
	g.y.Play(turn)
	if e == api.OK {
		g.played, g.policy = true, g.policy || turn.Flush
		if k := g.w.play(turn); k != n || n < int(turn.Budget) || n > int(turn.Budget)+7 {
			g.t.Fatalf("P15.3: %s: Play(%+v) = %d, want %d", what, turn, n, k)
		}
	}
	g.inside(what, g.m.Entries())
	g.agree(what)
	return n
}

// reset is the button of each.
func (g *group) reset(what string) {
	g.t.Helper()
	if e := g.m.Reset(); e != api.OK {
		g.t.Fatalf("P15.4: %s: Reset: %d", what, e)
	}
	g.x.Reset()
	g.y.Reset()
	g.w.m.Reset()
	g.agree(what)
}

// press is pads for each.
func (g *group) press(what string, one, two uint8) {
	g.t.Helper()
	g.m.Press(one, two)
	g.x.Press(one, two)
	g.y.Press(one, two)
	g.w.m.Press(one, two)
	g.agree(what)
}

// flush empties the cache.
func (g *group) flush(what string) {
	g.t.Helper()
	g.policy = true
	g.m.Flush()
	g.w.flush()
	keys(g.t, "P15.4: "+what, g.m)
	g.inside(what, g.m.Entries())
	g.agree(what)
}

// warm warms the cache.
func (g *group) warm(what string, pcs []uint16, workers int) {
	g.t.Helper()
	g.policy = true
	warms(g.t, "P15.5: "+what, g.m, pcs, workers, g.w.warm(pcs), api.OK)
	g.inside(what, g.m.Entries())
	g.agree(what)
}

// holds holds the keys against the second form's, and the counters against what P15.10 says of them.
func (g *group) holds(what string) {
	g.t.Helper()
	list, s := g.m.Keys(), g.m.Stats()
	if want := g.w.keys(); !slices.Equal(list, want) || len(list) > g.size {
		g.t.Fatalf("P15.6: %s: %d keys in %d slots, want %d: %v, want %v", what, len(list), g.size, len(want), list, want)
	}
	state := g.m.State()
	for name, other := range map[string]api.State{"the interpreter": g.y.State(), "the second form": g.w.m.State()} {
		same(g.t, "P15.7: "+what+": beside "+name, &state, &other)
	}
	idle, guards, stores := 0, 0, 0
	for _, e := range g.all {
		switch e.Left {
		case api.LeftGuard:
			guards++
		case api.LeftStore:
			stores++
		}
		if e.Insts == 0 {
			idle++
		}
	}
	if s.Blocks != len(g.all) || s.Guards != guards || s.Stores != stores {
		g.t.Fatalf("P15.10: %s: %d entries, %d by a guard, %d by a store: %+v", what, len(g.all), guards, stores, s)
	}
	if !g.played && g.passes != s.Steps+s.Blocks-idle {
		g.t.Fatalf("P15.10: %s: %d passes, %d entries with nothing done: %+v", what, g.passes, idle, s)
	}
	if !g.policy && s.Misses-g.w.empty-s.Evicted-s.Dropped != len(list) {
		g.t.Fatalf("P15.10: %s: %d keys, %d empty blocks: %+v", what, len(list), g.w.empty, s)
	}
}
