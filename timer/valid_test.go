package timer_test

import (
	"math/rand"
	"testing"

	"tandem/api"
	"tandem/timer"
)

// wrong is a clock in which all that could change does, and which asks by both devices, but for one field that may not be.
func wrong(spoil func(c *api.Clock)) api.Clock {
	c := api.Clock{Latch: 5, Hold: 9, Ctl: 3, Flag: true, Over: true, Frame: true, At: 29827, Wait: 1, Beats: 7}
	spoil(&c)
	return c
}

// refuse asks that nothing is done with a clock.
func refuse(t *testing.T, c api.Clock) {
	t.Helper()
	if timer.Valid(c) {
		t.Errorf("P6.1: %+v is told to be valid", c)
	}
	same(t, "P6.1: Tick of a clock that is not valid", timer.Tick(c), c)
	for _, n := range []int{-1, 0, 1, 2, 30000, greatest} {
		same(t, "P6.1: Advance of a clock that is not valid", timer.Advance(c, n), c)
	}
	if timer.Irq(c) {
		t.Errorf("P6.1: Irq of %+v, which is not valid", c)
	}
	if n := timer.Next(c); n != api.Never {
		t.Errorf("P6.1: Next of %+v, which is not valid: %d", c, n)
	}
	for addr := uint16(0x4014); addr <= 0x401c; addr++ {
		v, mask, d := timer.Read(c, addr)
		if v != 0 || mask != 0 || d != c {
			t.Errorf("P6.1: Read(%+v, %#x) of a clock that is not valid: %#x, %#x, %+v", c, addr, v, mask, d)
		}
		for _, v := range []uint8{0, 0x80, 0xff} {
			same(t, "P6.1: Write to a clock that is not valid", timer.Write(c, addr, v, 1), c)
		}
	}
}

func TestNotValidFields(t *testing.T) {
	for v := 32; v < 256; v++ {
		refuse(t, wrong(func(c *api.Clock) { c.Ctl = uint8(v) }))
	}
	for k, d := range dividers {
		for _, pre := range []int{d, d + 1, 2 * d, 300, 32768, 65535} {
			refuse(t, wrong(func(c *api.Clock) { c.Ctl, c.Pre = ctlOf(k, 3), uint16(pre) }))
		}
	}
	for _, at := range []uint16{37282, 37283, 40000, 65534, 65535} {
		refuse(t, wrong(func(c *api.Clock) { c.At = at }))
		refuse(t, wrong(func(c *api.Clock) { c.At, c.Five = at, true }))
	}
	for v := 5; v < 256; v++ {
		refuse(t, wrong(func(c *api.Clock) { c.Wait = uint8(v) }))
	}
	for v := 64; v < 256; v++ {
		refuse(t, wrong(func(c *api.Clock) { c.Beats = uint8(v) }))
	}
	refuse(t, wrong(func(c *api.Clock) { c.Flag = false }))
	refuse(t, wrong(func(c *api.Clock) { c.Inhibit = true }))
	refuse(t, api.Clock{Over: true})
	refuse(t, api.Clock{Inhibit: true, Frame: true})
	refuse(t, api.Clock{Five: true, Inhibit: true, Frame: true})
	refuse(t, api.Clock{Ctl: 255, Pre: 65535, Over: true, Inhibit: true, Frame: true, At: 65535, Wait: 255, Beats: 255})
}

func TestValidEdges(t *testing.T) {
	for _, c := range []api.Clock{
		{}, {Ctl: 31}, {Ctl: 24, Pre: 255}, {Ctl: 16, Pre: 63}, {Ctl: 8, Pre: 7}, {Ctl: 7},
		{Latch: 65535, Count: 65535, Hold: 255}, {At: 37281}, {At: 29830}, {At: 37281, Five: true},
		{Wait: 4}, {Beats: 63}, {Flag: true}, {Flag: true, Over: true}, {Inhibit: true}, {Frame: true}, {Five: true, Frame: true},
	} {
		if !timer.Valid(c) {
			t.Errorf("P6.1: %+v is valid", c)
		}
	}
	for k, d := range dividers {
		for pre := range 70000 {
			c := api.Clock{Ctl: ctlOf(k, 0), Pre: uint16(pre)}
			if timer.Valid(c) != (int(c.Pre) < d) {
				t.Fatalf("P6.1: Valid(%+v) = %t", c, timer.Valid(c))
			}
		}
	}
}

// TestValidTold turns one or two fields of valid clocks into anything.
func TestValidTold(t *testing.T) {
	r := rand.New(rand.NewSource(61))
	refused := 0
	for range 200000 {
		c := anyValid(r)
		if !timer.Valid(c) {
			t.Fatalf("P6.1: %+v is valid", c)
		}
		for range 1 + r.Intn(2) {
			spoil(r, &c)
		}
		want := open(c).valid()
		if timer.Valid(c) != want {
			t.Fatalf("P6.1: Valid(%+v) = %t", c, !want)
		}
		if !want {
			refused++
			if refused%50 == 0 {
				refuse(t, c)
			}
		}
	}
	if refused < 50000 {
		t.Errorf("only %d clocks that are not valid", refused)
	}
}

// spoil sets one field to anything.
func spoil(r *rand.Rand, c *api.Clock) {
	switch r.Intn(9) {
	case 0:
		c.Ctl = uint8(r.Intn(256))
	case 1:
		c.Pre = uint16(r.Intn(300))
	case 2:
		c.Pre = uint16(r.Intn(65536))
	case 3:
		c.At = uint16(r.Intn(65536))
	case 4:
		c.Wait = uint8(r.Intn(256))
	case 5:
		c.Beats = uint8(r.Intn(256))
	case 6:
		c.Over = !c.Over
	case 7:
		c.Flag = !c.Flag
	case 8:
		c.Inhibit, c.Frame = r.Intn(2) == 0, r.Intn(2) == 0
	}
}

// TestStaysValid does anything with a new clock, for long.
func TestStaysValid(t *testing.T) {
	r := rand.New(rand.NewSource(610))
	for range 200 {
		c := api.Clock{}
		if !timer.Valid(c) {
			t.Fatal("P6.1: the zero clock is valid")
		}
		for range 500 {
			was := c
			switch r.Intn(5) {
			case 0:
				c = timer.Tick(c)
			case 1:
				c = timer.Advance(c, some(r, r.Intn(10), r.Intn(100000), int(r.Uint64()>>1)))
			case 2:
				_, _, c = timer.Read(c, uint16(0x4014+r.Intn(10)))
			default:
				c = timer.Write(c, uint16(0x4014+r.Intn(10)), uint8(r.Intn(256)), r.Intn(10)-5)
			}
			if !timer.Valid(c) || !open(c).valid() {
				t.Fatalf("P6.1: of %+v, which is valid, came %+v", was, c)
			}
		}
	}
}

func TestZeroClock(t *testing.T) {
	same(t, "P6.1: nothing runs in a new timer, the sequencer goes on", timer.Advance(api.Clock{}, 7456), api.Clock{At: 7456})
	same(t, "P6.1: a new sequencer has four steps", timer.Advance(api.Clock{}, 29830), api.Clock{Frame: true, Beats: 4})
}
