package timer_test

import (
	"math/rand"
	"testing"

	"tandem/api"
	"tandem/timer"
)

const greatest = 1<<63 - 1

// The places of the sequencer that the chapter names, with those one ahead and one behind.
var places = []uint16{
	0, 1, 7455, 7456, 7457, 7458, 14911, 14912, 14913, 14914, 22369, 22370, 22371, 22372,
	29823, 29824, 29825, 29826, 29827, 29828, 29829, 29830, 29831, 30000, 37277, 37278, 37279, 37280, 37281,
}

var dividers = []int{1, 8, 64, 256}

// ctlOf is a Ctl with the divider of a number.
func ctlOf(k int, bits uint8) uint8 { return uint8(k)<<3 | bits }

// slow is n Ticks, one behind the other.
func slow(c api.Clock, n int) api.Clock {
	for range n {
		c = timer.Tick(c)
	}
	return c
}

// same holds two clocks against each other.
func same(t *testing.T, what string, got, want api.Clock) {
	t.Helper()
	if got != want {
		t.Errorf("%s:\n got %+v\nwant %+v", what, got, want)
	}
}

// some picks one of a list.
func some[T any](r *rand.Rand, l ...T) T { return l[r.Intn(len(l))] }

// anyValid is a valid clock; its numbers are often those of the edges.
func anyValid(r *rand.Rand) api.Clock {
	c := api.Clock{
		Latch: some(r, 0, 1, 2, 65535, uint16(r.Intn(65536)), uint16(r.Intn(300))),
		Count: some(r, 0, 1, 2, 65535, uint16(r.Intn(65536)), uint16(r.Intn(300))),
		Hold:  uint8(r.Intn(256)),
		Ctl:   uint8(r.Intn(32)),
		Flag:  r.Intn(2) == 0,
		Five:  r.Intn(2) == 0,
		At:    some(r, some(r, places...), uint16(r.Intn(37282))),
		Wait:  some(r, 0, uint8(r.Intn(5))),
		Beats: some(r, 62, 63, uint8(r.Intn(64))),
	}
	last := dividers[c.Ctl>>3] - 1
	c.Pre = uint16(some(r, 0, last, r.Intn(last+1)))
	c.Over = c.Flag && r.Intn(2) == 0
	switch r.Intn(3) {
	case 0:
		c.Inhibit = true
	case 1:
		c.Frame = true
	}
	return c
}

// eachSequencer goes through the sequencers at the places that the chapter names.
func eachSequencer(yield func(api.Clock) bool) {
	for _, at := range places {
		for wait := range uint8(5) {
			for kind := range 6 {
				c := api.Clock{At: at, Wait: wait, Beats: 63, Five: kind%2 == 1, Inhibit: kind/2 == 1, Frame: kind/2 == 2}
				if !yield(c) {
					return
				}
			}
		}
	}
}

// eachTimer goes through the timers at the edges that the chapter names.
func eachTimer(yield func(api.Clock) bool) {
	for ctl := range uint8(32) {
		last := uint16(dividers[ctl>>3] - 1)
		for _, pre := range []uint16{0, last / 2, last} {
			for _, count := range []uint16{0, 1, 2, 65535} {
				for _, latch := range []uint16{0, 1, 3, 65535} {
					for flags := range 3 {
						c := api.Clock{Latch: latch, Count: count, Pre: pre, Ctl: ctl, Flag: flags > 0, Over: flags > 1}
						if !yield(c) {
							return
						}
					}
				}
			}
		}
	}
}
