package raster_test

import (
	"math/rand"
	"testing"

	"tandem/api"
	"tandem/raster"
)

// advanceIs asks for Advance's answer.
func advanceIs(t *testing.T, r api.Raster, n int, want api.Raster, clocks int) {
	t.Helper()
	if got, k := raster.Advance(r, n); got != want || k != clocks {
		t.Errorf("P7.2: Advance(%+v, %d)\n got %+v, %d\nwant %+v, %d", r, n, got, k, want, clocks)
	}
}

func TestAdvanceNone(t *testing.T) {
	for r := range eachNear {
		for _, n := range []int{0, -1, -2, -59561, -greatest, -greatest - 1} {
			advanceIs(t, r, n, r, 0)
		}
	}
}

// step is a row of the tables below.
type step struct {
	from   api.Raster
	n      int
	to     api.Raster
	clocks int
}

// TestAdvanceFrames: whole frames, and one cycle more or less. One frame is 29780 cycles and two dots, or one dot where the last is left out.
func TestAdvanceFrames(t *testing.T) {
	for _, row := range []step{
		{at(0, 0, ""), 29779, at(261, 336, ""), 0},
		{at(0, 0, ""), 29780, at(261, 339, ""), 0},
		{at(0, 0, ""), 29781, at(0, 1, "o"), 0},
		{at(0, 0, ""), 59560, at(261, 337, "o"), 0},
		{at(0, 0, ""), 59561, at(261, 340, "o"), 0},
		{at(0, 0, ""), 59562, at(0, 2, ""), 0},
		{at(0, 0, ""), 89341, at(261, 338, ""), 0},
		{at(0, 0, ""), 89342, at(0, 0, "o"), 0},
		{at(0, 0, ""), 89343, at(0, 3, "o"), 0},
		{at(0, 0, ""), 178683, at(261, 338, "o"), 0},
		{at(0, 0, ""), 178684, at(0, 0, ""), 0},
		{at(0, 0, ""), 178685, at(0, 3, ""), 0},
		{at(0, 0, "o"), 29780, at(261, 339, "o"), 0},
		{at(0, 0, "o"), 29781, at(0, 1, ""), 0},
		{at(0, 0, "o"), 59561, at(261, 340, ""), 0},
		{at(0, 0, "o"), 59562, at(0, 2, "o"), 0},
		{at(0, 0, "o"), 89341, at(261, 338, "o"), 0},
		{at(0, 0, "o"), 89342, at(0, 0, ""), 0},
		{at(0, 0, "d"), 86, at(0, 258, "d"), 0},
		{at(0, 0, "d"), 87, at(0, 261, "d"), 1},
		{at(0, 0, "d"), 200, at(1, 259, "d"), 1},
		{at(0, 0, "d"), 201, at(1, 262, "d"), 2},
		{at(0, 0, "d"), 29753, at(261, 258, "d"), 240},
		{at(0, 0, "d"), 29754, at(261, 261, "d"), 241},
		{at(0, 0, "d"), 29780, at(261, 339, "d"), 241},
		{at(0, 0, "d"), 29781, at(0, 1, "od"), 241},
		{at(0, 0, "d"), 59560, at(261, 337, "od"), 482},
		{at(0, 0, "d"), 59561, at(0, 0, "d"), 482},
		{at(0, 0, "d"), 59562, at(0, 3, "d"), 482},
		{at(0, 0, "d"), 89340, at(261, 336, "d"), 723},
		{at(0, 0, "d"), 89341, at(261, 339, "d"), 723},
		{at(0, 0, "d"), 89342, at(0, 1, "od"), 723},
		{at(0, 0, "od"), 29779, at(261, 336, "od"), 241},
		{at(0, 0, "od"), 29780, at(261, 339, "od"), 241},
		{at(0, 0, "od"), 29781, at(0, 2, "d"), 241},
		{at(0, 0, "od"), 59560, at(261, 338, "d"), 482},
		{at(0, 0, "od"), 59561, at(0, 0, "od"), 482},
		{at(0, 0, "od"), 59562, at(0, 3, "od"), 482},
		{at(0, 0, "od"), 89340, at(261, 336, "od"), 723},
		{at(0, 0, "od"), 89341, at(261, 339, "od"), 723},
		{at(0, 0, "od"), 89342, at(0, 2, "d"), 723},
		{at(261, 339, "o"), 1, at(0, 1, ""), 0},
		{at(261, 339, "od"), 1, at(0, 2, "d"), 0},
		{at(261, 339, "od"), 29780, at(261, 338, "d"), 241},
		{at(261, 339, "od"), 29781, at(0, 0, "od"), 241},
		{at(261, 339, "od"), 59561, at(261, 339, "od"), 482},
		{at(261, 340, "od"), 1, at(0, 2, "d"), 0},
		{at(261, 340, "od"), 29780, at(261, 338, "d"), 241},
		{at(261, 340, "od"), 29781, at(0, 0, "od"), 241},
		{at(261, 340, "od"), 59561, at(261, 339, "od"), 482},
		{at(261, 340, "d"), 1, at(0, 2, "od"), 0},
		{at(261, 340, "d"), 59561, at(261, 340, "d"), 482},
		{at(261, 339, "d"), 59561, at(261, 339, "d"), 482},
	} {
		advanceIs(t, row.from, row.n, row.to, row.clocks)
	}
}

// TestAdvanceBlank: the flag's first and last place, a flag that was read away, and one that was held back.
func TestAdvanceBlank(t *testing.T) {
	for _, row := range []step{
		{at(240, 339, ""), 1, at(241, 1, "v"), 0},
		{at(241, 0, ""), 1, at(241, 3, "v"), 0},
		{at(241, 0, ""), 29780, at(240, 339, "o"), 0},
		{at(241, 0, ""), 29781, at(241, 1, "ov"), 0},
		{at(241, 0, "h"), 1, at(241, 3, ""), 0},
		{at(241, 0, "h"), 2273, at(260, 340, ""), 0},
		{at(241, 0, "h"), 2274, at(261, 2, ""), 0},
		{at(241, 0, "h"), 29780, at(240, 339, "o"), 0},
		{at(241, 0, "h"), 29781, at(241, 1, "ov"), 0},
		{at(241, 0, "h"), 29782, at(241, 4, "ov"), 0},
		{at(241, 0, "h"), 178684, at(241, 0, ""), 0},
		{at(241, 0, "h"), 178685, at(241, 3, "v"), 0},
		{at(241, 0, "h"), 2 * 178684, at(241, 0, ""), 0},
		{at(241, 0, "h"), 2*178684 + 1, at(241, 3, "v"), 0},
		{at(241, 0, "dh"), 29780, at(240, 339, "od"), 241},
		{at(241, 0, "dh"), 29781, at(241, 1, "ovd"), 241},
		{at(241, 0, "odh"), 29780, at(240, 340, "d"), 241},
		{at(241, 0, "odh"), 29781, at(241, 2, "vd"), 241},
		{at(241, 1, ""), 1, at(241, 4, ""), 0},
		{at(241, 1, ""), 2273, at(261, 0, ""), 0},
		{at(241, 1, ""), 2274, at(261, 3, ""), 0},
		{at(241, 1, ""), 29780, at(240, 340, "o"), 0},
		{at(241, 1, ""), 29781, at(241, 2, "ov"), 0},
		{at(241, 1, "v"), 2273, at(261, 0, "v"), 0},
		{at(241, 1, "v"), 2274, at(261, 3, ""), 0},
		{at(241, 2, ""), 29780, at(241, 0, "o"), 0},
		{at(241, 2, ""), 29781, at(241, 3, "ov"), 0},
		{at(241, 2, "d"), 59561, at(241, 2, "vd"), 482},
		{at(250, 7, ""), 1, at(250, 10, ""), 0},
		{at(250, 7, "v"), 1, at(250, 10, "v"), 0},
	} {
		advanceIs(t, row.from, row.n, row.to, row.clocks)
	}
}

// TestAdvanceGreat: a raster that isn't drawn comes back with 178684 cycles, one that is with 59561.
func TestAdvanceGreat(t *testing.T) {
	for _, row := range []step{
		{at(0, 0, ""), greatest, at(20, 21, ""), 0},
		{at(0, 0, ""), greatest - 1, at(20, 18, ""), 0},
		{at(0, 0, ""), 1 << 62, at(10, 12, "o"), 0},
		{at(0, 0, ""), 1e18, at(127, 179, "o"), 0},
		{at(0, 0, "o"), greatest, at(20, 21, "o"), 0},
		{at(0, 0, "o"), greatest - 1, at(20, 18, "o"), 0},
		{at(0, 0, "o"), 1 << 62, at(10, 12, ""), 0},
		{at(0, 0, "o"), 1e18, at(127, 179, ""), 0},
		{at(0, 0, "d"), greatest, at(260, 162, "ovd"), 74640541994996759},
		{at(0, 0, "d"), greatest - 1, at(260, 159, "ovd"), 74640541994996759},
		{at(0, 0, "d"), 1 << 62, at(261, 82, "od"), 37320270997498379},
		{at(0, 0, "d"), 1e18, at(54, 229, "od"), 8092543778647105},
		{at(0, 0, "od"), greatest, at(260, 163, "vd"), 74640541994996759},
		{at(0, 0, "od"), greatest - 1, at(260, 160, "vd"), 74640541994996759},
		{at(0, 0, "od"), 1 << 62, at(261, 83, "d"), 37320270997498379},
		{at(0, 0, "od"), 1e18, at(54, 230, "d"), 8092543778647105},
		{at(241, 0, "h"), greatest, at(261, 21, ""), 0},
		{at(241, 0, "h"), 1 << 62, at(251, 12, "ov"), 0},
		{at(241, 0, "h"), 1e18, at(106, 179, ""), 0},
		{at(241, 0, "ndh"), greatest, at(239, 163, "nd"), 74640541994996759},
		{at(241, 0, "ndh"), 1 << 62, at(240, 83, "nd"), 37320270997498380},
		{at(241, 0, "ndh"), 1e18, at(33, 230, "nd"), 8092543778647085},
		{at(261, 340, "od"), greatest, at(260, 161, "ovd"), 74640541994996759},
		{at(261, 340, "od"), 1 << 62, at(261, 81, "od"), 37320270997498379},
		{at(261, 340, "od"), 1e18, at(54, 228, "od"), 8092543778647105},
		{at(250, 7, "vnd"), greatest, at(248, 170, "vnd"), 74640541994996760},
		{at(250, 7, "nd"), greatest, at(248, 170, "vnd"), 74640541994996760},
		{at(250, 7, "nd"), 1 << 62, at(249, 90, "vnd"), 37320270997498380},
		{at(250, 7, "nd"), 1e18, at(42, 237, "nd"), 8092543778647094},
		{at(250, 7, "o"), greatest, at(8, 28, ""), 0},
		{at(250, 7, "o"), 1 << 62, at(260, 19, "v"), 0},
		{at(250, 7, "o"), 1e18, at(115, 186, "o"), 0},
		{at(0, 1, "d"), greatest, at(260, 163, "ovd"), 74640541994996759},
		{at(0, 2, "d"), greatest, at(260, 164, "ovd"), 74640541994996759},
	} {
		advanceIs(t, row.from, row.n, row.to, row.clocks)
	}
}

// asTold holds Advance by each number of cycles up to n against the chapter's Ticks.
func asTold(t *testing.T, r api.Raster, n int) {
	t.Helper()
	want, clocks := open(r), 0
	for k := 1; k <= n; k++ {
		clocks += want.tick()
		if got, c := raster.Advance(r, k); got != want.shut() || c != clocks {
			t.Fatalf("P7.2: Advance(%+v, %d)\n got %+v, %d\nwant %+v, %d", r, k, got, c, want.shut(), clocks)
		}
	}
}

// TestAdvanceLong goes through every number of cycles of twelve frames and more, in each of a cycle's phases.
func TestAdvanceLong(t *testing.T) {
	for _, flags := range []string{"", "o", "d", "ond"} {
		for dot := range 3 {
			asTold(t, at(0, dot, flags), 360000)
		}
		asTold(t, at(241, 0, flags+"h"), 360000)
	}
}

// TestAdvanceNear goes through a few cycles behind each place that the chapter names, and those around frames' ends.
func TestAdvanceNear(t *testing.T) {
	for r := range eachNear {
		asTold(t, r, 5)
	}
	for r := range eachNear {
		want, clocks, done := open(r), 0, 0
		for _, n := range []int{29779, 29780, 29781, 29782, 59560, 59561, 59562, 89341, 89342, 89343} {
			for ; done < n; done++ {
				clocks += want.tick()
			}
			advanceIs(t, r, n, want.shut(), clocks)
		}
	}
}

// TestAdvanceSums: a and then b cycles are a + b cycles, for all sizes.
func TestAdvanceSums(t *testing.T) {
	r := rand.New(rand.NewSource(720))
	for range 300000 {
		x := anyValid(r)
		a := int(r.Uint64() >> (1 + r.Intn(63)))
		b := int(r.Uint64() >> (1 + r.Intn(63)))
		b = min(b, greatest-a)
		first, k := raster.Advance(x, a)
		got, l := raster.Advance(first, b)
		want, m := raster.Advance(x, a+b)
		if got != want || k+l != m {
			t.Fatalf("P7.2: %+v by %d and by %d\n got %+v, %d\nwant %+v, %d", x, a, b, got, k+l, want, m)
		}
	}
}

// TestAdvanceTime: a call by 2^63 - 1 cycles is no loop over them, so a hundred thousand of them end at once.
func TestAdvanceTime(t *testing.T) {
	r, clocks := at(0, 0, "d"), 0
	for range 100000 {
		next, k := raster.Advance(r, greatest)
		r = next
		clocks = max(clocks, k)
		if n := raster.After(r, 1<<40); n < 1<<46 || n > 1<<47 {
			t.Fatalf("P7.4: After(%+v, 2^40) = %d", r, n)
		}
	}
	if clocks < 74640541994996759 {
		t.Errorf("P7.2: 2^63 - 1 cycles have %d clocks", clocks)
	}
}

// TestSlow holds Advance against Tick itself.
func TestSlow(t *testing.T) {
	r := rand.New(rand.NewSource(721))
	for range 300 {
		x := anyValid(r)
		n := some(r, r.Intn(5), r.Intn(500), r.Intn(30000))
		want, clocks := slow(x, n)
		advanceIs(t, x, n, want, clocks)
	}
}
