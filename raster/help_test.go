package raster_test

import (
	"math/rand"
	"testing"

	"tandem/api"
	"tandem/raster"
)

const greatest = 1<<63 - 1

// at is a new raster at a place, with the flags that letters tell: o(dd), v(bl), n(mi), d(raw), h(old).
func at(line, dot int, flags string) api.Raster {
	r := api.Raster{Line: line, Dot: dot}
	for _, f := range flags {
		switch f {
		case 'o':
			r.Odd = true
		case 'v':
			r.Vbl = true
		case 'n':
			r.Nmi = true
		case 'd':
			r.Draw = true
		case 'h':
			r.Hold = true
		default:
			panic("no such flag")
		}
	}
	return r
}

// same holds two rasters against each other.
func same(t *testing.T, what string, got, want api.Raster) {
	t.Helper()
	if got != want {
		t.Errorf("%s:\n got %+v\nwant %+v", what, got, want)
	}
}

// slow is n Ticks, one behind the other, and their clocks.
func slow(r api.Raster, n int) (api.Raster, int) {
	clocks := 0
	for range n {
		next, k := raster.Tick(r)
		r, clocks = next, clocks+k
	}
	return r, clocks
}

// some picks one of a list.
func some[T any](r *rand.Rand, l ...T) T { return l[r.Intn(len(l))] }

// The places that the chapter names.
var named = [][2]int{{0, 0}, {239, 340}, {240, 0}, {241, 0}, {241, 1}, {241, 2}, {261, 0}, {261, 1}, {261, 339}, {261, 340}}

// nearby is the numbers of places: those that the chapter names and those of the clocks, with up to three dots ahead and behind, so that each is met in each of a cycle's phases.
func nearby() []int {
	var l []int
	add := func(line, dot int) {
		for d := -3; d <= 3; d++ {
			if p := line*341 + dot + d; p >= 0 && p < 262*341 {
				l = append(l, p)
			}
		}
	}
	for _, p := range named {
		add(p[0], p[1])
	}
	for _, line := range []int{0, 1, 238, 239, 240, 241, 260, 261} {
		add(line, 260)
	}
	return l
}

// eachAt goes through all valid rasters at a place.
func eachAt(place int, yield func(api.Raster) bool) bool {
	for bits := range 32 {
		r := api.Raster{
			Line: place / 341, Dot: place % 341,
			Odd: bits&1 != 0, Nmi: bits&2 != 0, Draw: bits&4 != 0, Vbl: bits&8 != 0, Hold: bits&16 != 0,
		}
		if open(r).valid() && !yield(r) {
			return false
		}
	}
	return true
}

// eachNear goes through all valid rasters at the places of nearby.
func eachNear(yield func(api.Raster) bool) {
	for _, place := range nearby() {
		if !eachAt(place, yield) {
			return
		}
	}
}

// each goes through all valid rasters.
func each(yield func(api.Raster) bool) {
	for place := range 262 * 341 {
		if !eachAt(place, yield) {
			return
		}
	}
}

// anyValid is a valid raster, often at one of the places of nearby.
func anyValid(r *rand.Rand) api.Raster {
	l := nearby()
	for {
		place := some(r, l[r.Intn(len(l))], r.Intn(262*341), 82181+r.Intn(6822))
		x := api.Raster{Line: place / 341, Dot: place % 341, Odd: r.Intn(2) == 0, Vbl: r.Intn(2) == 0, Nmi: r.Intn(2) == 0, Draw: r.Intn(3) > 0, Hold: place == 82181 && r.Intn(2) == 0}
		if open(x).valid() {
			return x
		}
	}
}
