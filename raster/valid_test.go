package raster_test

import (
	"math/rand"
	"testing"

	"tandem/api"
	"tandem/raster"
)

// refuse asks that nothing is done with a raster.
func refuse(t *testing.T, r api.Raster) {
	t.Helper()
	if raster.Valid(r) {
		t.Errorf("P7.1: %+v is told to be valid", r)
	}
	if got, clock := raster.Dot(r); got != r || clock {
		t.Errorf("P7.1: Dot(%+v), which is not valid: %+v, %t", r, got, clock)
	}
	if got, clocks := raster.Tick(r); got != r || clocks != 0 {
		t.Errorf("P7.1: Tick(%+v), which is not valid: %+v, %d", r, got, clocks)
	}
	for _, n := range []int{-1, 0, 1, 2, 100, 59561, greatest} {
		if got, clocks := raster.Advance(r, n); got != r || clocks != 0 {
			t.Errorf("P7.1: Advance(%+v, %d), which is not valid: %+v, %d", r, n, got, clocks)
		}
	}
	if raster.Line(r) {
		t.Errorf("P7.1: Line(%+v), which is not valid", r)
	}
	if n := raster.Next(r); n != 0 {
		t.Errorf("P7.1: Next(%+v), which is not valid: %d", r, n)
	}
	for _, k := range []int{-1, 0, 1, 482, 1 << 40, 1<<40 + 1} {
		if n := raster.After(r, k); n != 0 {
			t.Errorf("P7.1: After(%+v, %d), which is not valid: %d", r, k, n)
		}
	}
	if v, got := raster.Status(r); v != 0 || got != r {
		t.Errorf("P7.1: Status(%+v), which is not valid: %#x, %+v", r, v, got)
	}
	for _, v := range []uint8{0, 0x80, 0x18, 0xff} {
		same(t, "P7.1: Ctrl of a raster that is not valid", raster.Ctrl(r, v), r)
		same(t, "P7.1: Mask of a raster that is not valid", raster.Mask(r, v), r)
	}
}

func TestNotValid(t *testing.T) {
	for _, flags := range []string{"", "n", "d", "nd", "ond"} {
		for _, line := range []int{-1 << 63, -262, -2, -1, 262, 263, 300, 1 << 32, greatest} {
			refuse(t, at(line, 0, flags))
			refuse(t, at(line, 259, flags))
			refuse(t, at(line, 340, flags))
		}
		for _, dot := range []int{-1 << 63, -341, -2, -1, 341, 342, 1 << 32, greatest} {
			refuse(t, at(0, dot, flags))
			refuse(t, at(241, dot, flags))
			refuse(t, at(250, dot, flags+"v"))
			refuse(t, at(261, dot, flags))
		}
		for _, place := range [][2]int{{0, 0}, {0, 1}, {100, 100}, {239, 340}, {240, 0}, {240, 1}, {240, 340}, {241, 0}, {261, 1}, {261, 2}, {261, 339}, {261, 340}} {
			refuse(t, at(place[0], place[1], flags+"v"))
		}
		for _, place := range [][2]int{{0, 0}, {239, 340}, {240, 0}, {240, 340}, {241, 1}, {241, 2}, {242, 0}, {261, 0}, {261, 1}, {261, 340}} {
			refuse(t, at(place[0], place[1], flags+"h"))
		}
		refuse(t, at(241, 0, flags+"vh"))
		refuse(t, at(241, 1, flags+"vh"))
		// A Dot or Line that is not one, though its place would be counted as one of the flag's.
		refuse(t, at(240, 341, flags+"h"))
		refuse(t, at(242, -341, flags+"h"))
		refuse(t, at(240, 342, flags+"v"))
		refuse(t, at(262, -341, flags+"v"))
	}
}

func TestValidEdges(t *testing.T) {
	for _, r := range []api.Raster{
		{}, at(0, 340, ""), at(261, 0, ""), at(261, 340, ""), at(261, 340, "ond"),
		at(241, 1, "v"), at(241, 2, "v"), at(241, 340, "v"), at(242, 0, "v"), at(250, 100, "ondv"), at(260, 340, "v"), at(261, 0, "v"),
		at(241, 0, "h"), at(241, 0, "hond"),
	} {
		if !raster.Valid(r) {
			t.Errorf("P7.1: %+v is valid", r)
		}
	}
	if r := (api.Raster{}); r != at(0, 0, "") || raster.Line(r) {
		t.Error("P7.1: a new raster is at (0, 0), all else false")
	}
}

// TestValidEverywhere asks of every place and some that are none.
func TestValidEverywhere(t *testing.T) {
	for line := -2; line <= 264; line++ {
		for dot := -2; dot <= 343; dot++ {
			for bits := range 4 {
				r := api.Raster{Line: line, Dot: dot, Vbl: bits&1 != 0, Hold: bits&2 != 0}
				if raster.Valid(r) != open(r).valid() {
					t.Fatalf("P7.1: Valid(%+v) = %t", r, raster.Valid(r))
				}
			}
		}
	}
}

// TestStaysValid does anything with a new raster, for long.
func TestStaysValid(t *testing.T) {
	r := rand.New(rand.NewSource(710))
	for range 300 {
		x := api.Raster{}
		for range 500 {
			was := x
			switch r.Intn(7) {
			case 0:
				x, _ = raster.Dot(x)
			case 1:
				x, _ = raster.Tick(x)
			case 2:
				x, _ = raster.Advance(x, some(r, r.Intn(10), r.Intn(100000), int(r.Uint64()>>1)))
			case 3:
				x, _ = raster.Advance(x, max(1, raster.Next(raster.Ctrl(x, 128))-r.Intn(2)))
			case 4:
				_, x = raster.Status(x)
			case 5:
				x = raster.Ctrl(x, uint8(r.Intn(256)))
			case 6:
				x = raster.Mask(x, uint8(r.Intn(256)))
			}
			if !raster.Valid(x) || !open(x).valid() {
				t.Fatalf("P7.1: of %+v, which is valid, came %+v", was, x)
			}
		}
	}
}
