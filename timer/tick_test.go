package timer_test

import (
	"math/rand"
	"testing"

	"tandem/api"
	"tandem/timer"
)

func TestTickTimer(t *testing.T) {
	for _, c := range []struct {
		what     string
		from, to api.Clock
	}{
		{"RUN clear", api.Clock{Ctl: 2, Latch: 7}, api.Clock{Ctl: 2, Latch: 7}},
		{"RUN clear, a divider, Pre at its last", api.Clock{Ctl: 0x1e, Pre: 255, Latch: 7}, api.Clock{Ctl: 0x1e, Pre: 255, Latch: 7}},
		{"a step", api.Clock{Ctl: 1, Count: 65535, Latch: 9}, api.Clock{Ctl: 1, Count: 65534, Latch: 9}},
		{"a step to 0 is no running out", api.Clock{Ctl: 1, Count: 1, Latch: 9}, api.Clock{Ctl: 1, Latch: 9}},
		{"a step from 0", api.Clock{Ctl: 1, Latch: 9}, api.Clock{Ctl: 1, Count: 9, Latch: 9, Flag: true}},
		{"a step from 0, ASK clear or set", api.Clock{Ctl: 3, Latch: 9}, api.Clock{Ctl: 3, Count: 9, Latch: 9, Flag: true}},
		{"a step from 0, a latch of 0", api.Clock{Ctl: 1}, api.Clock{Ctl: 1, Flag: true}},
		{"a step from 0, a latch of 65535", api.Clock{Ctl: 1, Latch: 65535}, api.Clock{Ctl: 1, Latch: 65535, Count: 65535, Flag: true}},
		{"a second running out", api.Clock{Ctl: 1, Latch: 9, Flag: true}, api.Clock{Ctl: 1, Count: 9, Latch: 9, Flag: true, Over: true}},
		{"a third running out", api.Clock{Ctl: 1, Latch: 9, Flag: true, Over: true}, api.Clock{Ctl: 1, Count: 9, Latch: 9, Flag: true, Over: true}},
		{"a step leaves Flag alone", api.Clock{Ctl: 1, Count: 3, Flag: true}, api.Clock{Ctl: 1, Count: 2, Flag: true}},
		{"ONCE", api.Clock{Ctl: 7, Latch: 9}, api.Clock{Ctl: 6, Count: 9, Latch: 9, Flag: true}},
		{"ONCE, not yet", api.Clock{Ctl: 7, Count: 1, Latch: 9}, api.Clock{Ctl: 7, Latch: 9}},
		{"ONCE, a second time", api.Clock{Ctl: 5, Latch: 9, Flag: true}, api.Clock{Ctl: 4, Count: 9, Latch: 9, Flag: true, Over: true}},
		{"ONCE with RUN clear", api.Clock{Ctl: 4, Latch: 9}, api.Clock{Ctl: 4, Latch: 9}},
		{"divider 8", api.Clock{Ctl: 9, Count: 4, Pre: 6}, api.Clock{Ctl: 9, Count: 4, Pre: 7}},
		{"divider 8, its last", api.Clock{Ctl: 9, Count: 4, Pre: 7}, api.Clock{Ctl: 9, Count: 3}},
		{"divider 64", api.Clock{Ctl: 17, Count: 4, Pre: 62}, api.Clock{Ctl: 17, Count: 4, Pre: 63}},
		{"divider 64, its last", api.Clock{Ctl: 17, Count: 4, Pre: 63}, api.Clock{Ctl: 17, Count: 3}},
		{"divider 256", api.Clock{Ctl: 25, Count: 4, Pre: 254}, api.Clock{Ctl: 25, Count: 4, Pre: 255}},
		{"divider 256, its last", api.Clock{Ctl: 25, Count: 4, Pre: 255}, api.Clock{Ctl: 25, Count: 3}},
		{"divider 256, its last, out", api.Clock{Ctl: 29, Pre: 255, Latch: 1}, api.Clock{Ctl: 28, Count: 1, Latch: 1, Flag: true}},
		{"Hold stays", api.Clock{Ctl: 1, Count: 0x100, Hold: 0x55}, api.Clock{Ctl: 1, Count: 0xff, Hold: 0x55}},
	} {
		c.to.At = 1
		same(t, "P6.2: "+c.what, timer.Tick(c.from), c.to)
	}
}

func TestTickSequencer(t *testing.T) {
	for _, c := range []struct {
		what     string
		from, to api.Clock
	}{
		{"no mark", api.Clock{At: 100, Beats: 5}, api.Clock{At: 101, Beats: 5}},
		{"four: first beat", api.Clock{At: 7456}, api.Clock{At: 7457, Beats: 1}},
		{"four: behind the first beat", api.Clock{At: 7457}, api.Clock{At: 7458}},
		{"four: second beat", api.Clock{At: 14912, Beats: 63}, api.Clock{At: 14913}},
		{"four: third beat", api.Clock{At: 22370, Beats: 62}, api.Clock{At: 22371, Beats: 63}},
		{"four: ahead of the interrupt", api.Clock{At: 29826}, api.Clock{At: 29827}},
		{"four: 29828", api.Clock{At: 29827}, api.Clock{At: 29828, Frame: true}},
		{"four: 29829", api.Clock{At: 29828}, api.Clock{At: 29829, Frame: true, Beats: 1}},
		{"four: 29830", api.Clock{At: 29829}, api.Clock{Frame: true}},
		{"four: 29831 is no mark", api.Clock{At: 29830}, api.Clock{}},
		{"four: behind the round's end", api.Clock{At: 29831}, api.Clock{}},
		{"four: the last beat of five steps is none", api.Clock{At: 37280}, api.Clock{}},
		{"four: at the last place", api.Clock{At: 37281}, api.Clock{}},
		{"four, Inhibit: 29828", api.Clock{At: 29827, Inhibit: true}, api.Clock{At: 29828, Inhibit: true}},
		{"four, Inhibit: 29829", api.Clock{At: 29828, Inhibit: true}, api.Clock{At: 29829, Inhibit: true, Beats: 1}},
		{"four, Inhibit: 29830", api.Clock{At: 29829, Inhibit: true}, api.Clock{Inhibit: true}},
		{"four: Frame stays", api.Clock{At: 1, Frame: true}, api.Clock{At: 2, Frame: true}},
		{"five: first beat", api.Clock{At: 7456, Five: true}, api.Clock{At: 7457, Five: true, Beats: 1}},
		{"five: second beat", api.Clock{At: 14912, Five: true}, api.Clock{At: 14913, Five: true, Beats: 1}},
		{"five: third beat", api.Clock{At: 22370, Five: true}, api.Clock{At: 22371, Five: true, Beats: 1}},
		{"five: 29828", api.Clock{At: 29827, Five: true}, api.Clock{At: 29828, Five: true}},
		{"five: 29829 is no beat", api.Clock{At: 29828, Five: true}, api.Clock{At: 29829, Five: true}},
		{"five: 29830 is no end", api.Clock{At: 29829, Five: true}, api.Clock{At: 29830, Five: true}},
		{"five: last beat", api.Clock{At: 37280, Five: true, Beats: 63}, api.Clock{At: 37281, Five: true}},
		{"five: its end", api.Clock{At: 37281, Five: true}, api.Clock{Five: true}},
		{"five: Frame stays", api.Clock{At: 37281, Five: true, Frame: true}, api.Clock{Five: true, Frame: true}},
		{"Wait 4", api.Clock{At: 5, Wait: 4}, api.Clock{At: 6, Wait: 3}},
		{"Wait 2", api.Clock{At: 5, Wait: 2}, api.Clock{At: 6, Wait: 1}},
		{"Wait 1, four", api.Clock{At: 5, Wait: 1}, api.Clock{}},
		{"Wait 1, five", api.Clock{At: 5, Wait: 1, Five: true}, api.Clock{Five: true, Beats: 1}},
		{"Wait ends at a beat, four", api.Clock{At: 7456, Wait: 1}, api.Clock{Beats: 1}},
		{"Wait ends at a beat, five", api.Clock{At: 7456, Wait: 1, Five: true, Beats: 62}, api.Clock{Five: true}},
		{"Wait ends at an interrupt", api.Clock{At: 29827, Wait: 1}, api.Clock{Frame: true}},
		{"Wait ends at the last beat, four", api.Clock{At: 29828, Wait: 1}, api.Clock{Frame: true, Beats: 1}},
		{"Wait ends at the round's end, four", api.Clock{At: 29829, Wait: 1}, api.Clock{Frame: true}},
		{"Wait ends at the last beat, five", api.Clock{At: 37280, Wait: 1, Five: true}, api.Clock{Five: true, Beats: 2}},
		{"Wait ends at the round's end, five", api.Clock{At: 37281, Wait: 1, Five: true}, api.Clock{Five: true, Beats: 1}},
		{"the round ends ahead of Wait", api.Clock{At: 29829, Wait: 3}, api.Clock{Frame: true, Wait: 2}},
	} {
		same(t, "P6.2: "+c.what, timer.Tick(c.from), c.to)
	}
}

// TestTickBoth: the two devices go on in one Tick.
func TestTickBoth(t *testing.T) {
	c := api.Clock{Ctl: 15, Pre: 7, Latch: 3, At: 29827, Wait: 1, Beats: 8}
	same(t, "P6.2: both devices", timer.Tick(c), api.Clock{Ctl: 14, Latch: 3, Count: 3, Flag: true, Frame: true, Beats: 8})
}

// ticksAsTold holds some Ticks against the chapter's words.
func ticksAsTold(t *testing.T, c api.Clock, n int) {
	t.Helper()
	want, was := open(c), c
	for range n {
		was = c
		c = timer.Tick(c)
		want.tick()
		if c != want.shut() {
			t.Fatalf("P6.2: Tick(%+v)\n got %+v\nwant %+v", was, c, want.shut())
		}
	}
}

func TestTickTold(t *testing.T) {
	for c := range eachSequencer {
		ticksAsTold(t, c, 6)
	}
	for c := range eachTimer {
		ticksAsTold(t, c, 6)
	}
	r := rand.New(rand.NewSource(62))
	for range 100000 {
		ticksAsTold(t, anyValid(r), 3)
	}
	for range 20 {
		ticksAsTold(t, anyValid(r), 80000)
	}
}
