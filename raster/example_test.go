package raster_test

import (
	"testing"

	"tandem/api"
	"tandem/raster"
)

// The chapter's examples, row by row.

func TestExamplesOfCycles(t *testing.T) {
	z := api.Raster{}
	n := api.Raster{Nmi: true}
	d := api.Raster{Draw: true}
	if got := raster.Next(n); got != 27394 {
		t.Errorf("P7.3: Next(N) = %d", got)
	}
	r, clocks := raster.Advance(n, 27394)
	same(t, "P7.3: the raster is then at (241, 1)", r, at(241, 1, "vn"))
	if clocks != 0 {
		t.Errorf("P7.2: %d clocks without Draw", clocks)
	}
	if got := raster.Next(r); got != 2274 {
		t.Errorf("P7.3: Next of that = %d", got)
	}
	r, _ = raster.Advance(r, 2274)
	same(t, "P7.3: at (261, 3)", r, at(261, 3, "n"))
	if got := raster.After(d, 1); got != 87 {
		t.Errorf("P7.4: After(D, 1) = %d", got)
	}
	r, clocks = raster.Advance(d, 87)
	if r != at(0, 261, "d") || clocks != 1 {
		t.Errorf("P7.4: that cycle ends at dot 261: %+v, %d", r, clocks)
	}
	if got := raster.After(d, 2); got != 201 {
		t.Errorf("P7.4: After(D, 2) = %d", got)
	}
	r, clocks = raster.Advance(d, 59561)
	if r != d || clocks != 482 {
		t.Errorf("P7.2: Advance(D, 59561) = %+v, %d", r, clocks)
	}
	r, clocks = raster.Advance(z, 89342)
	if r != (api.Raster{Odd: true}) || clocks != 0 {
		t.Errorf("P7.2: Advance(Z, 89342) = %+v, %d", r, clocks)
	}
	if got := raster.Next(at(241, 0, "nh")); got != 29781 {
		t.Errorf("P7.3: Next of (241, 0), Nmi, Hold = %d", got)
	}
}

func TestExamplesOfDots(t *testing.T) {
	for _, row := range []struct{ from, to api.Raster }{
		{at(261, 339, "od"), at(0, 0, "d")},
		{at(261, 339, "o"), at(261, 340, "o")},
		{at(241, 0, "h"), at(241, 1, "")},
	} {
		if got, clock := raster.Dot(row.from); got != row.to || clock {
			t.Errorf("P7.1: Dot(%+v) = %+v, %t", row.from, got, clock)
		}
	}
	for _, row := range []struct {
		from, to api.Raster
		v        uint8
	}{
		{at(241, 0, ""), at(241, 0, "h"), 0},
		{at(250, 7, "vn"), at(250, 7, "n"), 0x80},
	} {
		if v, got := raster.Status(row.from); v != row.v || got != row.to {
			t.Errorf("P7.5: Status(%+v) = %#x, %+v", row.from, v, got)
		}
	}
}
