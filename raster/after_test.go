package raster_test

import (
	"math/rand"
	"testing"

	"tandem/api"
	"tandem/raster"
)

func TestAfterByHand(t *testing.T) {
	ks := [8]int{1, 2, 240, 241, 242, 482, 483, 1 << 40}
	for _, row := range []struct {
		r    api.Raster
		want [8]int
	}{
		{at(0, 0, "d"), [8]int{87, 201, 27253, 29754, 29868, 59535, 59648, 135867244939584}},
		{at(0, 0, "nd"), [8]int{87, 201, 27253, 29754, 29868, 59535, 59648, 135867244939584}},
		{at(0, 1, "d"), [8]int{87, 200, 27253, 29754, 29867, 59534, 59648, 135867244939584}},
		{at(0, 2, "d"), [8]int{86, 200, 27253, 29753, 29867, 59534, 59647, 135867244939583}},
		{at(0, 0, "od"), [8]int{87, 201, 27253, 29754, 29867, 59534, 59648, 135867244939584}},
		{at(0, 257, "d"), [8]int{1, 115, 27168, 29668, 29782, 59449, 59562, 135867244939498}},
		{at(0, 258, "d"), [8]int{1, 115, 27167, 29668, 29782, 59449, 59562, 135867244939498}},
		{at(0, 259, "d"), [8]int{1, 114, 27167, 29668, 29781, 59448, 59562, 135867244939498}},
		{at(0, 260, "d"), [8]int{114, 228, 29667, 29781, 29895, 59561, 59675, 135867244939611}},
		{at(239, 259, "d"), [8]int{1, 2501, 29554, 29668, 29781, 59448, 59562, 135867244941884}},
		{at(239, 260, "d"), [8]int{2501, 2615, 29667, 29781, 32282, 59561, 62062, 135867244941998}},
		{at(240, 259, "d"), [8]int{2388, 2501, 29554, 29668, 32168, 59448, 61949, 135867244941884}},
		{at(261, 259, "d"), [8]int{1, 114, 27167, 27281, 29781, 57061, 59562, 135867244939497}},
		{at(261, 260, "d"), [8]int{114, 228, 27280, 29781, 29894, 59561, 59675, 135867244939611}},
		{at(261, 260, "od"), [8]int{114, 227, 27280, 29781, 29894, 59561, 59675, 135867244939611}},
		{at(261, 339, "od"), [8]int{87, 201, 27254, 29754, 29868, 59535, 59648, 135867244939584}},
		{at(261, 340, "od"), [8]int{87, 201, 27254, 29754, 29868, 59535, 59648, 135867244939584}},
		{at(261, 340, "d"), [8]int{87, 201, 27254, 29754, 29868, 59535, 59648, 135867244939584}},
		{at(241, 0, "dh"), [8]int{2360, 2474, 29527, 29640, 32141, 59421, 61921, 135867244941857}},
	} {
		for i, k := range ks {
			if got := raster.After(row.r, k); got != row.want[i] {
				t.Errorf("P7.4: After(%+v, %d) = %d, want %d", row.r, k, got, row.want[i])
			}
		}
	}
}

func TestAfterNever(t *testing.T) {
	for r := range eachNear {
		for _, k := range []int{0, -1, -482, -greatest - 1, 1<<40 + 1, 1 << 41, 1 << 62, greatest} {
			if got := raster.After(r, k); got != api.Never {
				t.Fatalf("P7.4: After(%+v, %d) = %d", r, k, got)
			}
		}
		for _, k := range []int{1, 241, 1 << 40} {
			if got := raster.After(r, k) == api.Never; got == r.Draw {
				t.Fatalf("P7.4: After(%+v, %d) is never: %t", r, k, got)
			}
		}
	}
}

// afterHolds asks that the k-th clock falls into the last of After's cycles.
func afterHolds(t *testing.T, r api.Raster, k int) {
	t.Helper()
	n := raster.After(r, k)
	if n < 1 {
		t.Fatalf("P7.4: After(%+v, %d) = %d", r, k, n)
	}
	_, behind := raster.Advance(r, n)
	_, ahead := raster.Advance(r, n-1)
	if behind != k || ahead != k-1 {
		t.Fatalf("P7.4: After(%+v, %d) = %d: these have %d clocks, one less has %d", r, k, n, behind, ahead)
	}
}

func TestAfterEverywhere(t *testing.T) {
	for r := range each {
		if r.Draw && !r.Nmi {
			for _, k := range []int{1, 2, 241, 242, 482, 1 << 40} {
				afterHolds(t, r, k)
			}
		}
	}
}

// TestAfterEvery goes through the clocks of four frames and more, with those of the chapter's words.
func TestAfterEvery(t *testing.T) {
	for _, r := range []api.Raster{at(0, 0, "d"), at(0, 1, "d"), at(0, 2, "od"), at(100, 260, "d"), at(241, 0, "odh"), at(261, 340, "od")} {
		want, clocks := open(r), 0
		for n := 1; clocks < 1000; n++ {
			if want.tick() == 0 {
				continue
			}
			clocks++
			if got := raster.After(r, clocks); got != n {
				t.Fatalf("P7.4: After(%+v, %d) = %d, by Ticks %d", r, clocks, got, n)
			}
		}
	}
}

func TestAfterAny(t *testing.T) {
	r := rand.New(rand.NewSource(740))
	for range 300000 {
		x := anyValid(r)
		x.Draw = true
		afterHolds(t, x, min(1<<40, 1+int(r.Uint64()>>(23+r.Intn(40)))))
	}
}
