package raster_test

import (
	"math/rand"
	"testing"

	"tandem/api"
	"tandem/raster"
)

// TestDotByHand: each place that the chapter names, one dot ahead and one behind, and the places of clocks and of lines that have none.
func TestDotByHand(t *testing.T) {
	for _, row := range []struct {
		from, to api.Raster
		clock    bool
	}{
		{at(0, 0, ""), at(0, 1, ""), false},
		{at(0, 0, "ond"), at(0, 1, "ond"), false},
		{at(0, 1, ""), at(0, 2, ""), false},
		{at(0, 339, "d"), at(0, 340, "d"), false},
		{at(0, 339, "od"), at(0, 340, "od"), false},
		{at(0, 340, "d"), at(1, 0, "d"), false},
		{at(0, 340, "od"), at(1, 0, "od"), false},
		{at(239, 339, "od"), at(239, 340, "od"), false},
		{at(239, 340, ""), at(240, 0, ""), false},
		{at(240, 0, "n"), at(240, 1, "n"), false},
		{at(240, 339, "n"), at(240, 340, "n"), false},
		{at(240, 340, "n"), at(241, 0, "n"), false},
		{at(241, 0, ""), at(241, 1, "v"), false},
		{at(241, 0, "ond"), at(241, 1, "ondv"), false},
		{at(241, 0, "h"), at(241, 1, ""), false},
		{at(241, 0, "ondh"), at(241, 1, "ond"), false},
		{at(241, 1, "v"), at(241, 2, "v"), false},
		{at(241, 1, ""), at(241, 2, ""), false},
		{at(241, 2, "v"), at(241, 3, "v"), false},
		{at(242, 0, ""), at(242, 1, ""), false},
		{at(242, 0, "v"), at(242, 1, "v"), false},
		{at(260, 340, "v"), at(261, 0, "v"), false},
		{at(260, 340, ""), at(261, 0, ""), false},
		{at(261, 0, "vnod"), at(261, 1, "nod"), false},
		{at(261, 0, ""), at(261, 1, ""), false},
		{at(261, 1, "n"), at(261, 2, "n"), false},
		{at(261, 338, "od"), at(261, 339, "od"), false},
		{at(261, 339, "od"), at(0, 0, "d"), false},
		{at(261, 339, "ondo"), at(0, 0, "nd"), false},
		{at(261, 339, "o"), at(261, 340, "o"), false},
		{at(261, 339, "d"), at(261, 340, "d"), false},
		{at(261, 339, ""), at(261, 340, ""), false},
		{at(261, 340, "od"), at(0, 0, "d"), false},
		{at(261, 340, "o"), at(0, 0, ""), false},
		{at(261, 340, "d"), at(0, 0, "od"), false},
		{at(261, 340, "n"), at(0, 0, "on"), false},
		{at(260, 339, "od"), at(260, 340, "od"), false},
		{at(0, 258, "d"), at(0, 259, "d"), false},
		{at(0, 259, "d"), at(0, 260, "d"), true},
		{at(0, 260, "d"), at(0, 261, "d"), false},
		{at(0, 261, "d"), at(0, 262, "d"), false},
		{at(0, 259, ""), at(0, 260, ""), false},
		{at(0, 259, "on"), at(0, 260, "on"), false},
		{at(1, 259, "ond"), at(1, 260, "ond"), true},
		{at(239, 258, "d"), at(239, 259, "d"), false},
		{at(239, 259, "d"), at(239, 260, "d"), true},
		{at(239, 260, "d"), at(239, 261, "d"), false},
		{at(240, 259, "d"), at(240, 260, "d"), false},
		{at(241, 259, "dv"), at(241, 260, "dv"), false},
		{at(260, 259, "dv"), at(260, 260, "dv"), false},
		{at(261, 258, "d"), at(261, 259, "d"), false},
		{at(261, 259, "d"), at(261, 260, "d"), true},
		{at(261, 259, "o"), at(261, 260, "o"), false},
		{at(261, 260, "d"), at(261, 261, "d"), false},
	} {
		got, clock := raster.Dot(row.from)
		if got != row.to || clock != row.clock {
			t.Errorf("P7.1: Dot(%+v)\n got %+v, %t\nwant %+v, %t", row.from, got, clock, row.to, row.clock)
		}
	}
}

// TestEveryDot holds Dot and Tick of every valid raster against the chapter's words.
func TestEveryDot(t *testing.T) {
	count := 0
	for r := range each {
		count++
		if !raster.Valid(r) {
			t.Fatalf("P7.1: %+v is valid", r)
		}
		want := open(r)
		clock := want.dot()
		if got, k := raster.Dot(r); got != want.shut() || k != clock {
			t.Fatalf("P7.1: Dot(%+v)\n got %+v, %t\nwant %+v, %t", r, got, k, want.shut(), clock)
		}
		want = open(r)
		clocks := want.tick()
		if got, k := raster.Tick(r); got != want.shut() || k != clocks {
			t.Fatalf("P7.2: Tick(%+v)\n got %+v, %d\nwant %+v, %d", r, got, k, want.shut(), clocks)
		}
	}
	if want := 8 * (262*341 + 6820 + 1); count != want {
		t.Errorf("%d valid rasters, want %d", count, want)
	}
}

// TestTickByHand: a cycle that has the clock at its first, second and third dot, and those that just miss it.
func TestTickByHand(t *testing.T) {
	for _, row := range []struct {
		from, to api.Raster
		clocks   int
	}{
		{at(7, 256, "d"), at(7, 259, "d"), 0},
		{at(7, 257, "d"), at(7, 260, "d"), 1},
		{at(7, 258, "d"), at(7, 261, "d"), 1},
		{at(7, 259, "d"), at(7, 262, "d"), 1},
		{at(7, 260, "d"), at(7, 263, "d"), 0},
		{at(7, 258, "o"), at(7, 261, "o"), 0},
		{at(240, 258, "d"), at(240, 261, "d"), 0},
		{at(240, 338, ""), at(241, 0, ""), 0},
		{at(240, 339, ""), at(241, 1, "v"), 0},
		{at(240, 340, ""), at(241, 2, "v"), 0},
		{at(241, 0, ""), at(241, 3, "v"), 0},
		{at(241, 0, "h"), at(241, 3, ""), 0},
		{at(260, 338, "v"), at(261, 0, "v"), 0},
		{at(260, 339, "v"), at(261, 1, ""), 0},
		{at(260, 340, "v"), at(261, 2, ""), 0},
		{at(261, 0, "v"), at(261, 3, ""), 0},
		{at(261, 337, "od"), at(0, 0, "d"), 0},
		{at(261, 337, "o"), at(261, 340, "o"), 0},
		{at(261, 338, "od"), at(0, 1, "d"), 0},
		{at(261, 338, "d"), at(0, 0, "od"), 0},
		{at(261, 339, "od"), at(0, 2, "d"), 0},
		{at(261, 339, "o"), at(0, 1, ""), 0},
		{at(261, 340, "od"), at(0, 2, "d"), 0},
		{at(261, 340, ""), at(0, 2, "o"), 0},
	} {
		got, clocks := raster.Tick(row.from)
		if got != row.to || clocks != row.clocks {
			t.Errorf("P7.2: Tick(%+v)\n got %+v, %d\nwant %+v, %d", row.from, got, clocks, row.to, row.clocks)
		}
		if got, clocks = raster.Advance(row.from, 1); got != row.to || clocks != row.clocks {
			t.Errorf("P7.2: Advance(%+v, 1)\n got %+v, %d\nwant %+v, %d", row.from, got, clocks, row.to, row.clocks)
		}
	}
}

// frameOf goes dot by dot until the frame's end, and counts dots and clocks.
func frameOf(r api.Raster) (next api.Raster, dots, clocks int) {
	for {
		var clock bool
		r, clock = raster.Dot(r)
		dots++
		if clock {
			clocks++
		}
		if r.Line == 0 && r.Dot == 0 {
			return r, dots, clocks
		}
	}
}

func TestFrames(t *testing.T) {
	for _, row := range []struct {
		flags, next  string
		dots, clocks int
	}{
		{"", "o", 89342, 0},
		{"o", "", 89342, 0},
		{"d", "od", 89342, 241},
		{"od", "d", 89341, 241},
	} {
		next, dots, clocks := frameOf(at(0, 0, row.flags))
		if next != at(0, 0, row.next) || dots != row.dots || clocks != row.clocks {
			t.Errorf("P7.2: a frame %q: %+v, %d dots, %d clocks", row.flags, next, dots, clocks)
		}
	}
}

// TestDrawAtTheEnd: whether the last dot is left out is told at the dot ahead of it, by Draw as it is then.
func TestDrawAtTheEnd(t *testing.T) {
	r := raster.Mask(at(261, 339, "o"), 0x08)
	r, _ = raster.Dot(r)
	same(t, "P7.1: Draw set at (261, 339)", r, at(0, 0, "d"))
	r, _ = raster.Dot(raster.Mask(at(261, 339, "od"), 0))
	same(t, "P7.1: Draw cleared at (261, 339)", r, at(261, 340, "o"))
	r, _ = raster.Dot(raster.Mask(r, 0x10))
	same(t, "P7.1: Draw set at (261, 340)", r, at(0, 0, "d"))
}

// TestAnyPlay does anything with a raster and with the chapter's words.
func TestAnyPlay(t *testing.T) {
	r := rand.New(rand.NewSource(71))
	for range 300 {
		x := anyValid(r)
		want := open(x)
		for range 300 {
			switch v := uint8(r.Intn(256)); r.Intn(8) {
			case 0:
				x = raster.Ctrl(x, v)
				want.nmi = v > 127
			case 1:
				x = raster.Mask(x, v)
				want.draw = v/8%2 == 1 || v/16%2 == 1
			case 2:
				_, x = raster.Status(x)
				want.vbl = false
				want.held = want.linesLeft == 20 && want.dotsLeft == 340
			case 3:
				x, _ = raster.Dot(x)
				want.dot()
			case 4:
				x, _ = raster.Tick(x)
				want.tick()
			default:
				n := some(r, 1, 2, r.Intn(300), r.Intn(3000))
				x, _ = raster.Advance(x, n)
				for range n {
					want.tick()
				}
			}
			if x != want.shut() || raster.Line(x) != want.line() || !raster.Valid(x) {
				t.Fatalf("P7.1: got %+v, want %+v", x, want.shut())
			}
		}
	}
}
