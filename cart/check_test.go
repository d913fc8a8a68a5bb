package cart_test

import (
	"testing"

	"tandem/api"
	"tandem/cart"
)

// change makes another cartridge of one.
type change func(*api.Cart)

func mapper(n int) change  { return func(c *api.Cart) { c.Mapper = n } }
func sub(n int) change     { return func(c *api.Cart) { c.Sub = n } }
func console(n int) change { return func(c *api.Cart) { c.Console = n } }
func kind(n int) change    { return func(c *api.Cart) { c.Kind = n } }
func timing(n int) change  { return func(c *api.Cart) { c.Timing = n } }
func device(n int) change  { return func(c *api.Cart) { c.Device = n } }
func misc(n int) change    { return func(c *api.Cart) { c.Misc = n } }
func prgRam(n int) change  { return func(c *api.Cart) { c.PrgRam = n } }
func prgNv(n int) change   { return func(c *api.Cart) { c.PrgNv = n } }
func chrRam(n int) change  { return func(c *api.Cart) { c.ChrRam = n } }
func chrNv(n int) change   { return func(c *api.Cart) { c.ChrNv = n } }
func trainer(n int) change { return func(c *api.Cart) { c.Trainer = make([]byte, n) } }
func prg(n int) change     { return func(c *api.Cart) { c.Prg = make([]byte, n) } }
func chr(n int) change     { return func(c *api.Cart) { c.Chr = make([]byte, n) } }
func rest(n int) change    { return func(c *api.Cart) { c.Rest = make([]byte, n) } }

// both is one change behind another.
func both(changes ...change) change {
	return func(c *api.Cart) {
		for _, f := range changes {
			f(c)
		}
	}
}

// wantChecks makes each change of a good cartridge and holds Check against the field's number; -1: it may be.
func wantChecks(t *testing.T, name string, good func() api.Cart, n int, changes ...change) {
	t.Helper()
	for i, f := range changes {
		c := good()
		f(&c)
		e, at := cart.Check(c)
		if n < 0 && (e != api.OK || at != 0) || n >= 0 && (e != api.ErrField || at != n) {
			t.Errorf("P1.2: %s, change %d: %d, %d, want field %d", name, i, e, at, n)
		}
	}
}

func TestCheckFormat(t *testing.T) {
	for _, good := range []func() api.Cart{archaic, ines, nes2} {
		if e, n := cart.Check(good()); e != api.OK || n != 0 {
			t.Errorf("P1.2: a good one of format %d: %d, %d", good().Format, e, n)
		}
		wantChecks(t, "no format", good, 0,
			func(c *api.Cart) { c.Format = -1 }, func(c *api.Cart) { c.Format = 3 },
			func(c *api.Cart) { c.Format = 1 << 62; c.Mapper = -1 }, func(c *api.Cart) { c.Format = -1 << 63 })
		wantChecks(t, "flags", good, -1, func(c *api.Cart) { c.Vert = !c.Vert }, func(c *api.Cart) { c.Four = !c.Four })
	}
	if e, n := cart.Check(api.Cart{}); e != api.ErrField || n != 11 {
		t.Errorf("P1.2: the zero cartridge: %d, %d", e, n)
	}
}

func TestCheckArchaic(t *testing.T) {
	battery := func() api.Cart { c := archaic(); c.Battery = true; c.PrgRam, c.PrgNv = 0, 8192; return c }
	wantChecks(t, "may be", archaic, -1, mapper(0), mapper(15), trainer(0), prg(16384), prg(api.MaxPrg),
		both(chr(8192), chrRam(0)), both(chr(api.MaxChr), chrRam(0)), rest(0), rest(1), rest(9000))
	wantChecks(t, "may be with a battery", battery, -1, mapper(1))
	wantChecks(t, "Mapper", archaic, 1, mapper(-1), mapper(16))
	wantChecks(t, "Sub", archaic, 2, sub(1), sub(-1))
	wantChecks(t, "Console", archaic, 6, console(1), console(-1))
	wantChecks(t, "Kind", archaic, 7, kind(1), kind(-1))
	wantChecks(t, "Timing", archaic, 8, timing(1), timing(-1))
	wantChecks(t, "Device", archaic, 9, device(1), device(-1))
	wantChecks(t, "Misc", archaic, 10, misc(1), misc(-1))
	wantChecks(t, "PrgRam", archaic, 11, prgRam(0), prgRam(8191), prgRam(8193), prgRam(16384), prgRam(-8192))
	wantChecks(t, "PrgRam with a battery", battery, 11, prgRam(8192), prgRam(-1))
	wantChecks(t, "PrgNv", archaic, 12, prgNv(8192), prgNv(-8192))
	wantChecks(t, "PrgNv with a battery", battery, 12, prgNv(0), prgNv(16384), prgNv(-8192))
	wantChecks(t, "ChrRam", archaic, 13, chrRam(0), chrRam(16384), chrRam(-8192), chr(8192))
	wantChecks(t, "ChrNv", archaic, 14, chrNv(128), chrNv(8192), chrNv(-1))
	wantChecks(t, "Trainer", archaic, 15, trainer(1), trainer(511), trainer(513), trainer(1024))
	wantChecks(t, "Prg", archaic, 16, prg(0), prg(1), prg(8192), prg(16383), prg(16385), prg(24576), prg(api.MaxPrg-1), prg(api.MaxPrg+1), prg(api.MaxPrg+16384))
	wantChecks(t, "Chr", archaic, 17, both(chr(1), chrRam(0)), both(chr(4096), chrRam(0)), both(chr(8193), chrRam(0)), both(chr(api.MaxChr+8192), chrRam(0)))
}

func TestCheckInes(t *testing.T) {
	ram := func() api.Cart { c := ines(); c.Battery = false; c.PrgRam, c.PrgNv = 8192, 0; return c }
	wantChecks(t, "may be", ines, -1, mapper(0), mapper(255), console(0), both(console(2), rest(8192)), both(console(2), rest(8193)), timing(0),
		prgNv(8192), prgNv(255*8192), trainer(512), prg(16384), prg(3*16384), prg(api.MaxPrg), both(chr(0), chrRam(8192)), chr(3*8192), chr(api.MaxChr), rest(0), rest(9000))
	wantChecks(t, "may be without a battery", ram, -1, prgRam(8192), prgRam(77*8192), prgRam(255*8192))
	wantChecks(t, "Mapper", ines, 1, mapper(-1), mapper(256))
	wantChecks(t, "Sub", ines, 2, sub(1), sub(-1))
	wantChecks(t, "Console", ines, 6, console(3), console(-1))
	wantChecks(t, "Kind", ines, 7, kind(1), kind(-1))
	wantChecks(t, "Timing", ines, 8, timing(2), timing(-1))
	wantChecks(t, "Device", ines, 9, device(1), device(-1))
	wantChecks(t, "Misc", ines, 10, misc(1), misc(-1))
	wantChecks(t, "PrgRam", ram, 11, prgRam(0), prgRam(4096), prgRam(8193), prgRam(256*8192), prgRam(-8192))
	wantChecks(t, "PrgRam with a battery", ines, 11, prgRam(8192), prgRam(-8192))
	wantChecks(t, "PrgNv", ram, 12, prgNv(8192), prgNv(-8192))
	wantChecks(t, "PrgNv with a battery", ines, 12, prgNv(0), prgNv(8191), prgNv(256*8192), prgNv(-8192))
	wantChecks(t, "ChrRam", ines, 13, chrRam(8192), chrRam(-8192), chr(0))
	wantChecks(t, "ChrNv", ines, 14, chrNv(8192), chrNv(-8192))
	wantChecks(t, "Trainer", ines, 15, trainer(1), trainer(513))
	wantChecks(t, "Prg", ines, 16, prg(0), prg(8192), prg(24576), prg(api.MaxPrg+16384))
	wantChecks(t, "Chr", ines, 17, chr(4096), chr(8191), chr(api.MaxChr+8192))
	wantChecks(t, "Rest", ines, 18, both(console(2), rest(0)), both(console(2), rest(8191)))
}

func TestCheckNes2(t *testing.T) {
	wantChecks(t, "may be", nes2, -1, mapper(0), mapper(4095), sub(0), sub(15), kind(0), kind(15), both(console(1), kind(0)), both(console(1), kind(255)),
		both(console(0), kind(0)), both(console(2), kind(0)), timing(0), timing(3), device(0), device(63), both(misc(3), rest(3)), both(misc(1), rest(1)), both(misc(0), rest(0)),
		rest(9000), trainer(0), chr(0), func(c *api.Cart) { c.Battery = !c.Battery })
	wantChecks(t, "Mapper", nes2, 1, mapper(-1), mapper(4096))
	wantChecks(t, "Sub", nes2, 2, sub(-1), sub(16))
	wantChecks(t, "Console", nes2, 6, console(-1), console(4))
	wantChecks(t, "Kind", nes2, 7, kind(-1), kind(16), console(0), console(2), both(console(1), kind(256)), both(console(1), kind(-1)))
	wantChecks(t, "Timing", nes2, 8, timing(-1), timing(4))
	wantChecks(t, "Device", nes2, 9, device(-1), device(64))
	wantChecks(t, "Misc", nes2, 10, misc(-1), misc(4))
	wantChecks(t, "Trainer", nes2, 15, trainer(1), trainer(511), trainer(513))
	wantChecks(t, "Rest", nes2, 18, misc(0), misc(3), rest(0), rest(1), both(misc(0), rest(1)))
	for i, field := range []func(int) change{prgRam, prgNv, chrRam, chrNv} {
		wantChecks(t, "a memory", nes2, -1, field(0))
		for n := 1; n <= 15; n++ {
			wantChecks(t, "a memory", nes2, -1, field(64<<n))
			wantChecks(t, "a memory", nes2, 11+i, field(64<<n+1), field(64<<n-1), field(-64<<n))
		}
		wantChecks(t, "a memory", nes2, 11+i, field(1), field(64), field(-1), field(192), field(64<<16), field(1<<62), field(-1<<63))
	}
}

// TestCheckNes2Sizes: PRG and CHR in units, or a power of two times 1, 3, 5 or 7.
func TestCheckNes2Sizes(t *testing.T) {
	may := func(n, unit, most int) bool {
		for _, odd := range []int{1, 3, 5, 7} {
			for size := odd; size <= most; size *= 2 {
				if size == n {
					return true
				}
			}
		}
		return n <= most && n%unit == 0
	}
	sizes := []int{0, 3*16384 + 8192, 11 * 8192, 11 * 16384, 63 * 8192, 63 * 16384, 65 * 8192, 65 * 16384, 9 * 4096, api.MaxChr - 1, api.MaxChr + 1, api.MaxPrg - 1, api.MaxPrg + 1, 3 << 18, 3 << 19, 7 << 16, 7 << 17, 7 << 18, 5 << 17, 5 << 18, 1 << 21, 1<<21 - 1}
	for n := range 70 {
		sizes = append(sizes, n)
	}
	for p := range 20 {
		for _, odd := range []int{1, 3, 5, 7, 9, 11, 13, 15} {
			sizes = append(sizes, odd<<p)
		}
	}
	for _, n := range sizes {
		want := 16
		if n > 0 && may(n, 16384, 1<<20) {
			want = -1
		}
		wantChecks(t, "PRG", nes2, want, prg(n))
		want = 17
		if may(n, 8192, 1<<19) {
			want = -1
		}
		wantChecks(t, "CHR", nes2, want, chr(n))
	}
}

// TestCheckOrder: of two wrong fields the one with the lower number is told.
func TestCheckOrder(t *testing.T) {
	wrong := []struct {
		n int
		f change
	}{
		{1, mapper(-1)}, {2, sub(-1)}, {6, console(-1)}, {7, kind(-1)}, {8, timing(-1)}, {9, device(-1)}, {10, misc(-1)}, {11, prgRam(-1)}, {12, prgNv(-1)},
		{13, chrRam(-1)}, {14, chrNv(-1)}, {15, trainer(3)}, {16, prg(0)}, {17, both(chr(11), func(c *api.Cart) {
			if c.Format < 2 && c.ChrRam == 8192 {
				c.ChrRam = 0
			}
		})},
	}
	for _, good := range []func() api.Cart{archaic, ines, nes2} {
		for i, a := range wrong {
			wantChecks(t, "one", good, a.n, a.f)
			for _, b := range wrong[i+1:] {
				wantChecks(t, "two", good, a.n, both(a.f, b.f), both(b.f, a.f))
			}
			wantChecks(t, "and too long", good, a.n, both(rest(api.MaxImage), a.f))
		}
	}
	wantChecks(t, "Rest ahead of the length", nes2, 18, both(misc(0), rest(api.MaxImage)))
}

// TestCheckLong: the image's length at and around its limit.
func TestCheckLong(t *testing.T) {
	for _, good := range []func() api.Cart{archaic, ines, nes2} {
		c := good()
		room := api.MaxImage - 16 - len(c.Trainer) - len(c.Prg) - len(c.Chr)
		wantChecks(t, "as long as may be", good, -1, rest(room), rest(room-1))
		for _, n := range []int{room + 1, room + 16, api.MaxImage, 2 * api.MaxImage} {
			c.Rest = make([]byte, n)
			if e, at := cart.Check(c); e != api.ErrLong || at != 18 {
				t.Errorf("P1.2: %d bytes of rest: %d, %d", n, e, at)
			}
			if l, e, at := cart.Print(c); e != api.ErrLong || at != 18 || len(l) != 0 {
				t.Errorf("P1.3: %d bytes of rest: %d, %d", n, e, at)
			}
		}
	}
}
