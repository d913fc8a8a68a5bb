package snap_test

import (
	"bytes"
	"math/rand"
	"slices"
	"testing"

	"tandem/api"
	"tandem/cart"
	"tandem/dbt"
	"tandem/interp"
	"tandem/isa"
	"tandem/snap"
	"tandem/stepper"
)

// engine is what all three machines can do.
type engine interface {
	Play(t api.Turn) (int, api.Errno)
	Log() []api.Access
	Events() []api.Event
}

// kinds is how many kinds of machines there are: the stepper, the interpreter, the translator.
const kinds = 3

// goingOn is a machine of a kind that goes on from a state.
func goingOn(t testing.TB, kind int, c api.Cart, s api.State) engine {
	t.Helper()
	var m engine
	var e api.Errno
	switch kind {
	case 0:
		m, e = stepper.From(c, s)
	case 1:
		m, e = interp.From(c, s)
	default:
		m, e = dbt.From(c, s, 64, 8)
	}
	if e != api.OK {
		t.Fatalf("P16.7: a machine of kind %d refuses %s: %d", kind, registers(s), e)
	}
	return m
}

// stateOf is a machine's state.
func stateOf(t testing.TB, m engine) api.State {
	t.Helper()
	switch m := m.(type) {
	case *stepper.Machine:
		s, ok := m.State()
		if !ok {
			t.Fatal("a stepper that is not at a boundary")
		}
		return s
	case *interp.Machine:
		return m.State()
	case *dbt.Machine:
		return m.State()
	}
	t.Fatal("no machine")
	return api.State{}
}

// over is a state that was saved and loaded.
func over(t testing.TB, c api.Cart, s api.State) api.State {
	t.Helper()
	sum := cart.Sum(c)
	data := saves(t, "over", sum, s)
	u, e, place := snap.Load(sum, data)
	if e != api.OK {
		t.Fatalf("P16.4: Load of a snapshot of %s: %d, %d", registers(s), e, place)
	}
	same(t, "P16.4: over", &u, &s)
	return u
}

// anyCode fills a list, which lies at an address, with instructions that seldom jam, and often touch devices.
func anyCode(r *rand.Rand, l []uint8, base int) {
	for i := 0; i < len(l); {
		code := anyByte(r)
		in := isa.Decode(code)
		if in.Kind == api.KindJam && r.Intn(200) > 0 || in.Kind == api.KindBreak && r.Intn(4) > 0 {
			continue
		}
		operand := uint16(some(r, r.Intn(0x800), 0x2000+r.Intn(8), 0x2006, 0x2007, 0x4014+r.Intn(8), 0x6000+r.Intn(0x2000), 0x8000+r.Intn(0x8000)))
		switch in.Kind {
		case api.KindJump, api.KindCall:
			operand = uint16(base + r.Intn(min(len(l), 0x4000)))
		case api.KindBranch:
			operand = uint16(uint8(r.Intn(60) - 12))
		}
		l[i] = code
		for k := 1; k < in.Len && i+k < len(l); k++ {
			l[i+k] = uint8(operand >> (8 * (k - 1)))
		}
		i += in.Len
	}
}

// coded is the cartridges of each board, full of code.
func coded(r *rand.Rand) []api.Cart {
	list := boards()
	for _, c := range list {
		anyCode(r, c.Prg, 0x8000)
		fill(r, c.Chr)
		for bank := api.Bank8; bank <= len(c.Prg); bank += api.Bank8 {
			for v := bank - 6; v < bank; v += 2 {
				c.Prg[v], c.Prg[v+1] = anyByte(r), 0x80+uint8(r.Intn(128))
			}
		}
	}
	return list
}

// anyTurn is a turn of at most so many cycles.
func anyTurn(r *rand.Rand, most int) api.Turn {
	return api.Turn{Budget: uint32(some(r, 0, 1, 7, r.Intn(100), r.Intn(most+1))), One: anyByte(r), Two: anyByte(r), Flush: flip(r), Reset: r.Intn(12) == 0}
}

// goesOn holds a machine of each kind that is made of what was loaded against one that is made of the state itself, over the same turns.
func goesOn(t testing.TB, r *rand.Rand, c api.Cart, s api.State) {
	t.Helper()
	u := over(t, c, s)
	turns := []api.Turn{anyTurn(r, 100), anyTurn(r, 2000), anyTurn(r, 500)}
	for kind := range kinds {
		one, two := goingOn(t, kind, c, s), goingOn(t, kind, c, u)
		for _, turn := range turns {
			n, e := one.Play(turn)
			k, f := two.Play(turn)
			if n != k || e != f {
				t.Fatalf("P16.7: kind %d: Play(%+v) is %d, %d behind a snapshot, want %d, %d", kind, turn, k, f, n, e)
			}
			want, got := stateOf(t, one), stateOf(t, two)
			same(t, "P16.7: behind a snapshot", &got, &want)
			if !slices.Equal(one.Log(), two.Log()) || !slices.Equal(one.Events(), two.Events()) {
				t.Fatalf("P16.7: kind %d: other logs behind a snapshot", kind)
			}
		}
	}
}

// Drawn states, some of them near the end of time.
func TestAnyStateGoesOn(t *testing.T) {
	t.Parallel()
	r := rand.New(rand.NewSource(1609))
	for _, c := range coded(r) {
		for range 40 {
			s := anyState(r, c)
			s.Cpu.Regs.PC = uint16(0x8000 + r.Intn(0x7ff0))
			if r.Intn(4) == 0 {
				s.Mem.Cycle = api.EndCycle - r.Intn(3000)
				s.Mem.Board = anyBoard(r, c, s.Mem.Cycle)
			}
			goesOn(t, r, c, s)
		}
	}
}

// The edges of what may be go on too.
func TestGoodStatesGoOn(t *testing.T) {
	r := rand.New(rand.NewSource(1610))
	for _, g := range goodStates() {
		goesOn(t, r, g.cart, turned(t, g.cart, g.turn))
	}
}

// Boundaries in the midst of things, DMA and what waits for an entry among them.
func TestBoundariesGoOn(t *testing.T) {
	t.Parallel()
	r := rand.New(rand.NewSource(1611))
	seen := map[string]int{}
	for _, c := range coded(r) {
		m, e := interp.New(c)
		if e != api.OK {
			t.Fatal(e)
		}
		for range 1500 {
			if m.Step(); m.Cpu().Jam && r.Intn(20) == 0 {
				m.Reset()
			}
			m.Press(anyByte(r), anyByte(r))
			s := m.State()
			what := "plain"
			switch {
			case s.Mem.Dma.On && s.Mem.Dma.Val != 0:
				what = "a write of DMA"
			case s.Mem.Dma.On:
				what = "DMA"
			case s.Cpu.Jam:
				what = "a jammed CPU"
			case s.Cpu.Take != api.TakeNone:
				what = "an entry"
			case s.Mem.Nmi:
				what = "a latch"
			}
			if seen[what]++; seen[what] <= 25 || r.Intn(100) == 0 {
				goesOn(t, r, c, s)
			}
		}
	}
	for _, what := range []string{"plain", "DMA", "a write of DMA", "a jammed CPU", "an entry"} {
		if seen[what] < 10 {
			t.Errorf("%s: %d times: too few to tell", what, seen[what])
		}
	}
}

// Long runs of all three side by side: behind each turn their snapshots are the same bytes. One more goes on from a snapshot behind every turn, by turns on another kind, and has the same logs.
func TestLongRuns(t *testing.T) {
	t.Parallel()
	r := rand.New(rand.NewSource(1612))
	sizes := map[int]int{}
	for _, c := range coded(r) {
		sum, s := cart.Sum(c), first(t, c)
		var all [kinds]engine
		for kind := range kinds {
			all[kind] = goingOn(t, kind, c, s)
		}
		for i := range 60 {
			turn := anyTurn(r, 6000)
			turn.Reset = turn.Reset || s.Cpu.Jam
			hopper := goingOn(t, i%kinds, c, over(t, c, s))
			n, e := hopper.Play(turn)
			s = stateOf(t, hopper)
			data, log, events := saves(t, "a long run", sum, s), hopper.Log(), hopper.Events()
			for kind, m := range all {
				if k, f := m.Play(turn); k != n || f != e || f != api.OK {
					t.Fatalf("P15: kind %d: Play(%+v) is %d, %d, behind a snapshot %d, %d", kind, turn, k, f, n, e)
				}
				if !bytes.Equal(saves(t, "a long run", sum, stateOf(t, m)), data) {
					got := stateOf(t, m)
					same(t, "P15: behind a snapshot", &s, &got)
				}
				if !slices.Equal(m.Log(), log) || !slices.Equal(m.Events(), events) {
					t.Fatalf("P15: kind %d: other logs than behind a snapshot", kind)
				}
			}
			sizes[len(data)]++
		}
	}
	for _, n := range []int{small, small + extra, small + 2*extra} {
		if sizes[n] < 10 {
			t.Errorf("%d snapshots of %d bytes: too few to tell", sizes[n], n)
		}
	}
}

// A snapshot of one cartridge is none of another's.
func TestOtherCartridges(t *testing.T) {
	r := rand.New(rand.NewSource(1613))
	list := coded(r)
	for i, c := range list {
		s := first(t, c)
		data := saves(t, "a cartridge", cart.Sum(c), s)
		for k, d := range list {
			if i == k {
				loads(t, "its own cartridge", cart.Sum(d), data, &s)
			} else {
				refused(t, "another cartridge", cart.Sum(d), data, api.ErrOther, 14)
			}
		}
	}
}
