package timer_test

import (
	"math/rand"
	"testing"

	"tandem/api"
	"tandem/timer"
)

func TestIrq(t *testing.T) {
	for bits := range 64 {
		c := api.Clock{Ctl: uint8(bits & 7), Flag: bits&8 != 0, Over: bits&24 == 24, Frame: bits&32 != 0, At: 3}
		want := bits&32 != 0 || bits&8 != 0 && bits&2 != 0
		if timer.Irq(c) != want {
			t.Errorf("P6.4: Irq(%+v) = %t", c, !want)
		}
		if got := timer.Next(c) == 0; got != want {
			t.Errorf("P6.5: Next(%+v) is 0: %t", c, got)
		}
		c.Five = true
		if timer.Irq(c) != want {
			t.Errorf("P6.4: Irq(%+v) = %t", c, !want)
		}
		if c.Frame {
			continue
		}
		c.Inhibit = true
		if timer.Irq(c) != want {
			t.Errorf("P6.4: Irq(%+v) = %t", c, !want)
		}
	}
}

func TestNextByHand(t *testing.T) {
	for _, row := range []struct {
		what string
		c    api.Clock
		want int
	}{
		{"a new clock", api.Clock{}, 29828},
		{"Inhibit", api.Clock{Inhibit: true}, api.Never},
		{"five steps", api.Clock{Five: true}, api.Never},
		{"five steps at a place of the interrupt", api.Clock{Five: true, At: 29827}, api.Never},
		{"Inhibit at a place of the interrupt", api.Clock{Inhibit: true, At: 29827}, api.Never},
		{"five steps, Wait", api.Clock{Five: true, Wait: 3}, api.Never},
		{"one ahead", api.Clock{At: 29827}, 1},
		{"two ahead", api.Clock{At: 29826}, 2},
		{"between the three", api.Clock{At: 29828}, 1},
		{"ahead of the last of the three", api.Clock{At: 29829}, 1},
		{"29830", api.Clock{At: 29830}, 29829},
		{"37281", api.Clock{At: 37281}, 29829},
		{"Wait 1", api.Clock{Wait: 1}, 29829},
		{"Wait 1 ends at the mark", api.Clock{At: 29827, Wait: 1}, 1},
		{"Wait 1 ends one ahead of the mark", api.Clock{At: 29826, Wait: 1}, 29829},
		{"Wait 4 ends at the mark", api.Clock{At: 29824, Wait: 4}, 4},
		{"Wait 4 ends one ahead of the mark", api.Clock{At: 29823, Wait: 4}, 29832},
		{"Wait 4 behind the mark", api.Clock{At: 29828, Wait: 4}, 1},
		{"Wait 4 at 29830", api.Clock{At: 29830, Wait: 4}, 29832},
		{"the timer's", api.Clock{Ctl: 3, Count: 9, Latch: 3}, 10},
		{"the timer's with the next", api.Clock{Ctl: 3}, 1},
		{"the timer's, Pre at its last", api.Clock{Ctl: 27, Pre: 255}, 1},
		{"the timer's, divider 64", api.Clock{Ctl: 19, Pre: 1, Count: 2}, 191},
		{"the timer's, the longest", api.Clock{Ctl: 27, Count: 65535, Inhibit: true}, 1 << 24},
		{"the timer's, later than the sequencer's", api.Clock{Ctl: 27, Count: 65535}, 29828},
		{"the timer's, as soon as the sequencer's", api.Clock{Ctl: 3, Count: 29827}, 29828},
		{"the timer's, one sooner", api.Clock{Ctl: 3, Count: 29826}, 29827},
		{"the timer's, one later", api.Clock{Ctl: 3, Count: 29828}, 29828},
		{"ASK clear", api.Clock{Ctl: 1, Inhibit: true}, api.Never},
		{"RUN clear", api.Clock{Ctl: 2, Inhibit: true}, api.Never},
		{"ASK clear, and run out", api.Clock{Ctl: 1, Inhibit: true, Flag: true}, api.Never},
		{"ONCE", api.Clock{Ctl: 7, Count: 4, Five: true}, 5},
		{"ONCE, run out", api.Clock{Ctl: 6, Count: 4, Five: true}, api.Never},
		{"it asks already", api.Clock{Ctl: 2, Flag: true}, 0},
		{"it asks already, by the sequencer", api.Clock{Five: true, Frame: true}, 0},
	} {
		if got := timer.Next(row.c); got != row.want {
			t.Errorf("P6.5: Next, %s: %d, want %d", row.what, got, row.want)
		}
	}
}

// nextHolds asks that Irq first holds behind Next's cycles, and no sooner.
func nextHolds(t *testing.T, c api.Clock) {
	t.Helper()
	n := timer.Next(c)
	switch {
	case timer.Irq(c):
		if n != 0 {
			t.Errorf("P6.5: Next(%+v), which asks: %d", c, n)
		}
	case n == api.Never:
		for _, far := range []int{1, 2, 3, 4, 5, 29828, 40000, 1 << 24, 1 << 40, greatest} {
			if timer.Irq(timer.Advance(c, far)) {
				t.Errorf("P6.5: Next(%+v) is never, but it asks behind %d", c, far)
			}
		}
	case n < 1 || n > 1<<24:
		t.Errorf("P6.5: Next(%+v) = %d", c, n)
	default:
		if !timer.Irq(timer.Advance(c, n)) || timer.Irq(timer.Advance(c, n-1)) {
			t.Errorf("P6.5: Next(%+v) = %d: Irq behind it %t, one ahead %t", c, n, timer.Irq(timer.Advance(c, n)), timer.Irq(timer.Advance(c, n-1)))
		}
	}
}

func TestNextHolds(t *testing.T) {
	for c := range eachSequencer {
		nextHolds(t, c)
	}
	for c := range eachTimer {
		nextHolds(t, c)
		c.Inhibit = true
		nextHolds(t, c)
	}
	r := rand.New(rand.NewSource(65))
	for range 200000 {
		nextHolds(t, anyValid(r))
	}
}

// TestNextTold finds the first interrupt by Ticks.
func TestNextTold(t *testing.T) {
	r := rand.New(rand.NewSource(650))
	for range 1500 {
		c := anyValid(r)
		c.Flag, c.Over, c.Frame = false, false, false
		c.Count = uint16(r.Intn(60000))
		want := open(c)
		n := 0
		for n < 80000 && !want.irq() {
			want.tick()
			n++
		}
		got := timer.Next(c)
		if want.irq() && got != n || !want.irq() && got < n {
			t.Fatalf("P6.5: Next(%+v) = %d, by Ticks %d (%t)", c, got, n, want.irq())
		}
	}
}
