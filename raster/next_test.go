package raster_test

import (
	"testing"

	"tandem/api"
	"tandem/raster"
)

func TestLine(t *testing.T) {
	for r := range each {
		if raster.Line(r) != (r.Vbl && r.Nmi) {
			t.Fatalf("P7.3: Line(%+v) = %t", r, raster.Line(r))
		}
	}
}

func TestNextByHand(t *testing.T) {
	for _, row := range []struct {
		r    api.Raster
		want int
	}{
		{at(0, 0, "n"), 27394},
		{at(0, 1, "n"), 27394},
		{at(0, 2, "n"), 27394},
		{at(0, 3, "n"), 27393},
		{at(0, 0, "nd"), 27394},
		{at(0, 0, "on"), 27394},
		{at(0, 0, "ond"), 27394},
		{at(240, 337, "n"), 2},
		{at(240, 338, "n"), 2},
		{at(240, 339, "n"), 1},
		{at(240, 340, "n"), 1},
		{at(241, 0, "n"), 1},
		{at(241, 0, "nh"), 29781},
		{at(241, 0, "ndh"), 29781},
		{at(241, 0, "onh"), 29781},
		{at(241, 0, "ondh"), 29781},
		{at(241, 1, "n"), 29781},
		{at(241, 1, "nd"), 29781},
		{at(241, 1, "ond"), 29781},
		{at(241, 1, "vn"), 2274},
		{at(241, 2, "vn"), 2273},
		{at(241, 2, "n"), 29781},
		{at(250, 7, "n"), 28756},
		{at(250, 7, "vn"), 1249},
		{at(250, 7, "ondv"), 1249},
		{at(260, 338, "vn"), 2},
		{at(260, 339, "vn"), 1},
		{at(260, 340, "vn"), 1},
		{at(261, 0, "vn"), 1},
		{at(261, 0, "n"), 27508},
		{at(261, 0, "ond"), 27508},
		{at(261, 1, "n"), 27508},
		{at(261, 1, "nd"), 27508},
		{at(261, 1, "ond"), 27507},
		{at(261, 339, "n"), 27395},
		{at(261, 339, "on"), 27395},
		{at(261, 339, "nd"), 27395},
		{at(261, 339, "ond"), 27395},
		{at(261, 340, "n"), 27395},
		{at(261, 340, "nd"), 27395},
		{at(261, 340, "ond"), 27395},
		{at(0, 0, ""), api.Never},
		{at(0, 0, "od"), api.Never},
		{at(240, 340, ""), api.Never},
		{at(241, 0, "h"), api.Never},
		{at(250, 7, "v"), api.Never},
		{at(261, 0, "vod"), api.Never},
	} {
		if got := raster.Next(row.r); got != row.want {
			t.Errorf("P7.3: Next(%+v) = %d, want %d", row.r, got, row.want)
		}
	}
}

// TestNextEverywhere: of every valid raster, the line is another behind Next's cycles, and not one cycle ahead of them (nor sooner: see TestNextTold).
func TestNextEverywhere(t *testing.T) {
	for r := range each {
		n := raster.Next(r)
		if !r.Nmi {
			if n != api.Never {
				t.Fatalf("P7.3: Next(%+v) = %d", r, n)
			}
			continue
		}
		if n < 1 || n > 30000 {
			t.Fatalf("P7.3: Next(%+v) = %d", r, n)
		}
		line := raster.Line(r)
		ahead, _ := raster.Advance(r, n-1)
		behind, _ := raster.Advance(r, n)
		if raster.Line(ahead) != line || raster.Line(behind) == line {
			t.Fatalf("P7.3: Next(%+v) = %d: one less %+v, as many %+v", r, n, ahead, behind)
		}
	}
}

// TestNextTold finds the line's change by the chapter's Ticks.
func TestNextTold(t *testing.T) {
	for r := range eachNear {
		if !r.Nmi {
			continue
		}
		want, n := open(r), 0
		for n == 0 || want.line() == open(r).line() {
			want.tick()
			n++
		}
		if got := raster.Next(r); got != n {
			t.Errorf("P7.3: Next(%+v) = %d, by Ticks %d", r, got, n)
		}
	}
}

// TestNextOn: while no more than the next change goes by, Next counts down by one a cycle.
func TestNextOn(t *testing.T) {
	for _, r := range []api.Raster{at(0, 0, "n"), at(0, 1, "ond"), at(241, 0, "nh"), at(241, 0, "ondh"), at(241, 1, "vn"), at(261, 340, "ond")} {
		for left := raster.Next(r); left > 1; left-- {
			r, _ = raster.Tick(r)
			if got := raster.Next(r); got != left-1 {
				t.Fatalf("P7.3: Next(%+v) = %d, want %d", r, got, left-1)
			}
		}
	}
}
