package raster_test

import (
	"testing"

	"tandem/api"
	"tandem/raster"
)

func TestStatusByHand(t *testing.T) {
	for _, row := range []struct {
		from, to api.Raster
		v        uint8
	}{
		{at(0, 0, ""), at(0, 0, ""), 0},
		{at(0, 0, "ond"), at(0, 0, "ond"), 0},
		{at(240, 340, "n"), at(240, 340, "n"), 0},
		{at(241, 0, "ond"), at(241, 0, "ondh"), 0},
		{at(241, 0, "h"), at(241, 0, "h"), 0},
		{at(241, 1, "v"), at(241, 1, ""), 0x80},
		{at(241, 1, "vond"), at(241, 1, "ond"), 0x80},
		{at(241, 1, ""), at(241, 1, ""), 0},
		{at(241, 2, "v"), at(241, 2, ""), 0x80},
		{at(242, 0, "v"), at(242, 0, ""), 0x80},
		{at(242, 0, ""), at(242, 0, ""), 0},
		{at(261, 0, "vn"), at(261, 0, "n"), 0x80},
		{at(261, 1, "n"), at(261, 1, "n"), 0},
	} {
		if v, got := raster.Status(row.from); v != row.v || got != row.to {
			t.Errorf("P7.5: Status(%+v) = %#x, %+v, want %#x, %+v", row.from, v, got, row.v, row.to)
		}
	}
}

func TestStatusEverywhere(t *testing.T) {
	for r := range each {
		want, wantV := r, uint8(0)
		if r.Vbl {
			wantV = 128
		}
		want.Vbl = false
		want.Hold = r.Line == 241 && r.Dot == 0
		if v, got := raster.Status(r); v != wantV || got != want {
			t.Fatalf("P7.5: Status(%+v) = %#x, %+v, want %#x, %+v", r, v, got, wantV, want)
		}
	}
}

// TestRace reads the status register once, at each dot around the flag's setting, and looks for the flag and the NMI line behind it.
func TestRace(t *testing.T) {
	for ahead := -5; ahead <= 5; ahead++ {
		r := at(240, 300, "n")
		for range 41 + ahead {
			r, _ = raster.Dot(r)
		}
		v, r := raster.Status(r)
		if seen := v == 0x80; seen != (ahead >= 1) {
			t.Errorf("P7.5: read %d dots behind (241, 0): %#x", ahead, v)
		}
		_, hushed := raster.Status(at(241, 0, "n"))
		if ahead == 0 && r != hushed {
			t.Errorf("P7.5: read at (241, 0): %+v", r)
		}
		set := false
		for range 89341 {
			r, _ = raster.Dot(r)
			set = set || raster.Line(r)
			if r.Line == 0 && r.Dot == 0 {
				break
			}
		}
		if set != (ahead < 0) {
			t.Errorf("P7.5: read %d dots behind (241, 0): the line goes up behind it: %t", ahead, set)
		}
		if next := raster.Next(r); next != 27394 {
			t.Errorf("P7.5: the next frame's flag comes as ever: %d", next)
		}
	}
}

func TestCtrlMask(t *testing.T) {
	for r := range eachNear {
		for v := range 256 {
			want := r
			want.Nmi = v >= 128
			same(t, "P7.6: Ctrl", raster.Ctrl(r, uint8(v)), want)
			want = r
			want.Draw = v%32 >= 8
			same(t, "P7.6: Mask", raster.Mask(r, uint8(v)), want)
		}
	}
}

// TestLineAgain: the line goes up with Nmi while Vbl is true, as often as Nmi is set.
func TestLineAgain(t *testing.T) {
	r := at(250, 7, "v")
	for range 3 {
		if raster.Line(r) {
			t.Error("P7.3: the line is up without Nmi")
		}
		r = raster.Ctrl(r, 0x80)
		if !raster.Line(r) {
			t.Error("P7.6: Nmi set while Vbl is true: the line is up at once")
		}
		r = raster.Ctrl(r, 0x7f)
	}
}
