package timer_test

import (
	"testing"

	"tandem/api"
	"tandem/timer"
)

// set is the clock of the first two examples: a latch of 2, and a Ctl.
func set(ctl uint8) api.Clock {
	c := timer.Write(api.Clock{}, 0x4018, 2, 0)
	c = timer.Write(c, 0x4019, 0, 0)
	return timer.Write(c, 0x401a, ctl, 0)
}

// nextIs asks for Next's answer.
func nextIs(t *testing.T, what string, c api.Clock, want int) {
	t.Helper()
	if got := timer.Next(c); got != want {
		t.Errorf("%s: Next %d, want %d", what, got, want)
	}
}

func TestExamplesOfTimer(t *testing.T) {
	c := set(0x83)
	same(t, "example 1", c, api.Clock{Latch: 2, Count: 2, Ctl: 3})
	nextIs(t, "example 1", c, 3)
	same(t, "example 1, two Ticks", slow(c, 2), api.Clock{Latch: 2, Ctl: 3, At: 2})
	same(t, "example 1, three Ticks", slow(c, 3), api.Clock{Latch: 2, Count: 2, Ctl: 3, Flag: true, At: 3})

	nextIs(t, "example 2, divider 8", set(0x8b), 24)
	c = slow(set(0x87), 3)
	same(t, "example 2, ONCE", c, api.Clock{Latch: 2, Count: 2, Ctl: 6, Flag: true, At: 3})
	nextIs(t, "example 2, ONCE", c, 0)
	_, _, c = timer.Read(c, 0x401b)
	nextIs(t, "example 2, read", c, 29825)
	if timer.Advance(c, 29824).Flag {
		t.Error("example 2: something more comes")
	}

	c = timer.Advance(api.Clock{Ctl: 25, Latch: 0xffff, Count: 0xffff}, 1<<24)
	same(t, "example 8", timerOf(c), api.Clock{Ctl: 25, Latch: 0xffff, Count: 0xffff, Flag: true})

	if timer.Valid(api.Clock{Pre: 1}) {
		t.Error("example 9: a Pre of 1 with divider 1")
	}
	nextIs(t, "example 9", api.Clock{Pre: 1}, api.Never)

	v, mask, c := timer.Read(api.Clock{Count: 0x1234}, 0x4018)
	if v != 0x34 || mask != 0xff {
		t.Errorf("example 10: %#x, %#x", v, mask)
	}
	same(t, "example 10", c, api.Clock{Count: 0x1234, Hold: 0x12})
}

func TestExamplesOfSequencer(t *testing.T) {
	nextIs(t, "example 3", api.Clock{}, 29828)
	c := timer.Advance(api.Clock{}, 29828)
	same(t, "example 3", c, api.Clock{At: 29828, Frame: true, Beats: 3})
	c = timer.Tick(c)
	same(t, "example 3, one more", c, api.Clock{At: 29829, Frame: true, Beats: 4})
	same(t, "example 3, two more", timer.Tick(c), api.Clock{Frame: true, Beats: 4})

	c = timer.Write(api.Clock{}, 0x4017, 0x80, 0)
	same(t, "example 4", c, api.Clock{Five: true, Wait: 3})
	c = slow(c, 3)
	same(t, "example 4, three Ticks", c, api.Clock{Five: true, Beats: 1})
	nextIs(t, "example 4", c, api.Never)

	c = timer.Write(api.Clock{At: 29827}, 0x4017, 0, 1)
	same(t, "example 5", c, api.Clock{At: 29827, Wait: 4})
	nextIs(t, "example 5", c, 1)
	nextIs(t, "example 5", timer.Write(api.Clock{At: 29820}, 0x4017, 0, 1), 29832)

	v, mask, c := timer.Read(api.Clock{Flag: true, Frame: true, Ctl: 1}, 0x4015)
	if v != 0xc0 || mask != 0xc0 {
		t.Errorf("example 6: %#x, %#x", v, mask)
	}
	same(t, "example 6", c, api.Clock{Flag: true, Ctl: 1})

	same(t, "example 7", timer.Write(api.Clock{Frame: true}, 0x4017, 0x40, 5), api.Clock{Inhibit: true, Wait: 4})
}
