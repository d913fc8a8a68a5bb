package timer_test

import (
	"math/rand"
	"testing"

	"tandem/api"
	"tandem/timer"
)

var ports = []uint16{0x4015, 0x4017, 0x4018, 0x4019, 0x401a, 0x401b}

func TestReadByHand(t *testing.T) {
	full := api.Clock{Latch: 0xabcd, Count: 0x1234, Pre: 100, Hold: 0x56, Ctl: 0x1f, Flag: true, Over: true, Five: true, Frame: true, At: 900, Wait: 2, Beats: 63}
	bare := api.Clock{Latch: 0xabcd, Count: 0x00ff, Hold: 0x56, Ctl: 0, Inhibit: true, At: 900, Wait: 4}
	with := func(c api.Clock, change func(c *api.Clock)) api.Clock {
		change(&c)
		return c
	}
	for _, row := range []struct {
		c       api.Clock
		addr    uint16
		v, mask uint8
		behind  api.Clock
	}{
		{full, 0x4015, 0xc0, 0xc0, with(full, func(c *api.Clock) { c.Frame = false })},
		{full, 0x4018, 0x34, 0xff, with(full, func(c *api.Clock) { c.Hold = 0x12 })},
		{full, 0x4019, 0x56, 0xff, full},
		{full, 0x401a, 0x9f, 0x9f, full},
		{full, 0x401b, 0xff, 0xff, with(full, func(c *api.Clock) { c.Flag, c.Over = false, false })},
		{bare, 0x4015, 0, 0xc0, bare},
		{bare, 0x4018, 0xff, 0xff, with(bare, func(c *api.Clock) { c.Hold = 0 })},
		{bare, 0x4019, 0x56, 0xff, bare},
		{bare, 0x401a, 0, 0x9f, bare},
		{bare, 0x401b, 0, 0xff, bare},
		{api.Clock{Flag: true}, 0x4015, 0x80, 0xc0, api.Clock{Flag: true}},
		{api.Clock{Frame: true}, 0x4015, 0x40, 0xc0, api.Clock{}},
		{api.Clock{Flag: true, Beats: 1}, 0x401b, 0x81, 0xff, api.Clock{Beats: 1}},
		{api.Clock{Frame: true, Beats: 1}, 0x401b, 0x01, 0xff, api.Clock{Frame: true, Beats: 1}},
		{api.Clock{Flag: true, Ctl: 2}, 0x401a, 0x82, 0x9f, api.Clock{Flag: true, Ctl: 2}},
		{api.Clock{Over: true, Flag: true}, 0x4015, 0x80, 0xc0, api.Clock{Over: true, Flag: true}},
	} {
		v, mask, behind := timer.Read(row.c, row.addr)
		if v != row.v || mask != row.mask || behind != row.behind {
			t.Errorf("P6.6: Read(%+v, %#x)\n got %#x, %#x, %+v\nwant %#x, %#x, %+v", row.c, row.addr, v, mask, behind, row.v, row.mask, row.behind)
		}
	}
}

// TestHold: the high byte is that of the last read of the low one, whatever the counter has done since.
func TestHold(t *testing.T) {
	c := api.Clock{Ctl: 1, Count: 0x0200, Latch: 0x0200}
	low, _, c := timer.Read(c, 0x4018)
	c = timer.Tick(c)
	high, _, d := timer.Read(c, 0x4019)
	if low != 0 || high != 2 || d != c {
		t.Errorf("P6.6: the counter read at $0200: %#x, %#x", high, low)
	}
	low, _, c = timer.Read(c, 0x4018)
	high, _, _ = timer.Read(c, 0x4019)
	if low != 0xff || high != 1 {
		t.Errorf("P6.6: the counter read at $01FF: %#x, %#x", high, low)
	}
}

func TestReadTold(t *testing.T) {
	r := rand.New(rand.NewSource(66))
	for range 100000 {
		c := anyValid(r)
		addr := uint16(0x4012 + r.Intn(12))
		want := open(c)
		value, bits := want.read(int(addr))
		v, mask, behind := timer.Read(c, addr)
		if int(v) != value || int(mask) != bits || behind != want.shut() {
			t.Fatalf("P6.6: Read(%+v, %#x)\n got %#x, %#x, %+v\nwant %#x, %#x, %+v", c, addr, v, mask, behind, value, bits, want.shut())
		}
		if v&^mask != 0 {
			t.Fatalf("P6.6: Read(%+v, %#x): %#x has bits that the mask %#x hasn't", c, addr, v, mask)
		}
	}
}

// TestNoPort: every address that is none of the clock's.
func TestNoPort(t *testing.T) {
	c := api.Clock{Latch: 0xabcd, Count: 0x1234, Pre: 100, Hold: 0x56, Ctl: 0x1f, Flag: true, Over: true, Five: true, Frame: true, At: 900, Wait: 2, Beats: 63}
	for a := range 65536 {
		addr := uint16(a)
		reads := addr == 0x4015 || addr >= 0x4018 && addr <= 0x401b
		writes := addr >= 0x4017 && addr <= 0x401b
		v, mask, d := timer.Read(c, addr)
		if !reads && (v != 0 || mask != 0 || d != c) {
			t.Errorf("P6.6: Read of %#x, which is none: %#x, %#x, %+v", addr, v, mask, d)
		}
		if reads && mask == 0 {
			t.Errorf("P6.6: Read of %#x drives no bits", addr)
		}
		got := timer.Write(c, addr, 0xff, 1)
		if !writes && got != c {
			t.Errorf("P6.7: Write to %#x, which is none: %+v", addr, got)
		}
		if writes && got == c {
			t.Errorf("P6.7: Write to %#x does nothing", addr)
		}
	}
}

func TestWriteByHand(t *testing.T) {
	full := api.Clock{Latch: 0xabcd, Count: 0x1234, Pre: 100, Hold: 0x56, Ctl: 0x19, Flag: true, Over: true, Frame: true, At: 900, Wait: 1, Beats: 63}
	for _, row := range []struct {
		what   string
		addr   uint16
		v      uint8
		cycle  int
		change func(c *api.Clock)
	}{
		{"four steps, even", 0x4017, 0x3f, 0, func(c *api.Clock) { c.Wait = 3 }},
		{"four steps, odd", 0x4017, 0x00, 1, func(c *api.Clock) { c.Wait = 4 }},
		{"five steps", 0x4017, 0x80, 2, func(c *api.Clock) { c.Wait, c.Five = 3, true }},
		{"inhibited", 0x4017, 0x40, 3, func(c *api.Clock) { c.Wait, c.Inhibit, c.Frame = 4, true, false }},
		{"both", 0x4017, 0xff, 4, func(c *api.Clock) { c.Wait, c.Five, c.Inhibit, c.Frame = 3, true, true, false }},
		{"cycle -1", 0x4017, 0, -1, func(c *api.Clock) { c.Wait = 4 }},
		{"cycle -2", 0x4017, 0, -2, func(c *api.Clock) { c.Wait = 3 }},
		{"the least cycle", 0x4017, 0, -1 << 63, func(c *api.Clock) { c.Wait = 3 }},
		{"the one behind the least cycle", 0x4017, 0, -1<<63 + 1, func(c *api.Clock) { c.Wait = 4 }},
		{"the greatest cycle", 0x4017, 0, greatest, func(c *api.Clock) { c.Wait = 4 }},
		{"the low byte", 0x4018, 0x11, 0, func(c *api.Clock) { c.Latch = 0xab11 }},
		{"the high byte", 0x4019, 0x11, 0, func(c *api.Clock) { c.Latch = 0x11cd }},
		{"all bits of Ctl", 0x401a, 0x7f, 0, func(c *api.Clock) { c.Ctl, c.Pre = 0x1f, 0 }},
		{"Ctl 0", 0x401a, 0x60, 0, func(c *api.Clock) { c.Ctl, c.Pre = 0, 0 }},
		{"Ctl, counted anew", 0x401a, 0x85, 0, func(c *api.Clock) { c.Ctl, c.Pre, c.Count = 5, 0, 0xabcd }},
		{"the same Ctl once more", 0x401a, 0x19, 0, func(c *api.Clock) { c.Pre = 0 }},
		{"acknowledged", 0x401b, 0, 0, func(c *api.Clock) { c.Flag, c.Over = false, false }},
		{"acknowledged by any value", 0x401b, 0xff, 1, func(c *api.Clock) { c.Flag, c.Over = false, false }},
		{"no write of the status", 0x4015, 0xff, 1, func(c *api.Clock) {}},
	} {
		want := full
		row.change(&want)
		same(t, "P6.7: "+row.what, timer.Write(full, row.addr, row.v, row.cycle), want)
	}
	same(t, "P6.7: back to four steps, Inhibit clear", timer.Write(api.Clock{Five: true, Inhibit: true, Wait: 4, At: 37281}, 0x4017, 0, 0), api.Clock{Wait: 3, At: 37281})
}

func TestWriteTold(t *testing.T) {
	r := rand.New(rand.NewSource(67))
	for range 200000 {
		c := anyValid(r)
		addr := some(r, some(r, ports...), uint16(0x4012+r.Intn(12)))
		v := uint8(r.Intn(256))
		cycle := int(r.Uint64())
		want := open(c)
		want.write(int(addr), int(v), cycle%2 != 0)
		if got := timer.Write(c, addr, v, cycle); got != want.shut() {
			t.Fatalf("P6.7: Write(%+v, %#x, %#x, %d)\n got %+v\nwant %+v", c, addr, v, cycle, got, want.shut())
		}
	}
}
