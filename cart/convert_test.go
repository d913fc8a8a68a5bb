package cart_test

import (
	"math/rand"
	"testing"

	"tandem/api"
	"tandem/cart"
)

// common is a cartridge that all formats can tell.
func common(format int) api.Cart {
	c := api.Cart{Format: format, Mapper: 3, Vert: true, Four: true, Battery: true, PrgNv: 8192, Trainer: list(512, 1), Prg: list(32768, 2), Chr: list(8192, 3), Rest: list(5, 4)}
	if format == api.Nes2 {
		c.Misc = 1
	}
	return c
}

// TestConvertTurns: all turns between the three formats, with a rest and without.
func TestConvertTurns(t *testing.T) {
	for from := range 3 {
		for to := range 3 {
			c, want := common(from), common(to)
			wantTurn(t, c, to, want)
			c.Rest, want.Rest = nil, []byte{}
			c.Misc, want.Misc = 0, 0
			wantTurn(t, c, to, want)
		}
	}
	c := nes2()
	wantTurn(t, c, 2, nes2())
	wantTurn(t, ines(), 1, ines())
	wantTurn(t, archaic(), 0, archaic())
}

func wantTurn(t *testing.T, c api.Cart, format int, want api.Cart) {
	t.Helper()
	d, e, n := cart.Convert(c, format)
	if e != api.OK || n != 0 || !same(d, want) {
		t.Errorf("P1.5: %d to %d: %d, %d, %+v", c.Format, format, e, n, plain(d))
	}
}

// TestConvertRefuses: the argument ahead of the cartridge, the cartridge ahead of the format.
func TestConvertRefuses(t *testing.T) {
	with := func(c api.Cart, changes ...change) api.Cart {
		both(changes...)(&c)
		return c
	}
	for _, r := range []struct {
		name   string
		c      api.Cart
		format int
		e      api.Errno
		n      int
	}{
		{"format 3", common(1), 3, api.ErrArg, 0},
		{"format -1", common(1), -1, api.ErrArg, 0},
		{"no format and no cartridge", api.Cart{Format: 9}, 1 << 62, api.ErrArg, 0},
		{"no such cartridge", api.Cart{Format: 3}, 1, api.ErrField, 0},
		{"a wrong field", with(common(1), timing(2)), 2, api.ErrField, 8},
		{"a wrong field that the new format has", with(common(0), mapper(16)), 2, api.ErrField, 1},
		{"a wrong field, the same format", with(common(0), prg(100)), 0, api.ErrField, 16},
		{"too long", with(common(1), rest(api.MaxImage)), 2, api.ErrLong, 18},
		{"Mapper of iNES", with(common(1), mapper(16)), 0, api.ErrFormat, 1},
		{"Mapper of NES 2.0", with(common(2), mapper(256)), 1, api.ErrFormat, 1},
		{"Sub", with(common(2), sub(1)), 1, api.ErrFormat, 2},
		{"Console of iNES", with(common(1), console(1)), 0, api.ErrFormat, 6},
		{"Console of NES 2.0", with(common(2), console(3)), 1, api.ErrFormat, 6},
		{"Kind", with(common(2), console(1), kind(1)), 1, api.ErrFormat, 7},
		{"Timing of iNES", with(common(1), timing(1)), 0, api.ErrFormat, 8},
		{"Timing of NES 2.0", with(common(2), timing(2)), 1, api.ErrFormat, 8},
		{"Device", with(common(2), device(1)), 0, api.ErrFormat, 9},
		{"Misc 2", with(common(2), misc(2)), 1, api.ErrFormat, 10},
		{"Misc 3", with(common(2), misc(3)), 0, api.ErrFormat, 10},
		{"PrgRam to NES 2.0", with(ines(), func(c *api.Cart) { c.Battery = false; c.PrgRam, c.PrgNv = 24576, 0 }), 2, api.ErrFormat, 11},
		{"PrgRam beside a battery", with(common(2), prgRam(128)), 1, api.ErrFormat, 11},
		{"PrgNv to NES 2.0", ines(), 2, api.ErrFormat, 12},
		{"PrgNv to archaic", with(common(1), prgNv(16384)), 0, api.ErrFormat, 12},
		{"PrgNv from NES 2.0", with(common(2), prgNv(128)), 1, api.ErrFormat, 12},
		{"ChrRam beside CHR", with(common(2), chrRam(8192)), 1, api.ErrFormat, 13},
		{"no ChrRam in place of CHR", with(common(2), chr(0)), 0, api.ErrFormat, 13},
		{"ChrNv", with(common(2), chrNv(8192)), 1, api.ErrFormat, 14},
		{"Prg", with(common(2), prg(24576)), 1, api.ErrFormat, 16},
		{"Chr", with(common(2), chr(4096)), 0, api.ErrFormat, 17},
		{"the first of several", with(common(2), sub(1), device(1), chr(4096)), 0, api.ErrFormat, 2},
		{"Rest of a hotel board", with(common(2), console(2)), 1, api.ErrFormat, 18},
	} {
		d, e, n := cart.Convert(r.c, r.format)
		wantRefused(t, "P1.5: "+r.name, d, e, n, r.e, r.n)
	}
	hotel := with(common(2), console(2), rest(8192))
	if d, e, n := cart.Convert(hotel, 1); e != api.OK || n != 0 || d.Console != 2 || d.Misc != 0 {
		t.Errorf("P1.5: a hotel board with its ROM: %d, %d", e, n)
	}
}

// TestConvertBack: what was turned turns back.
func TestConvertBack(t *testing.T) {
	dice := rand.New(rand.NewSource(4))
	turned := 0
	for range 3000 {
		c := diceCart(dice)
		if dice.Intn(2) == 0 && c.Format == api.Nes2 {
			c = common(api.Nes2)
			c.Timing, c.Misc = dice.Intn(3), dice.Intn(3)
			c.Rest = list(c.Misc*2, 4)
		}
		if !wrongNone(c) {
			continue
		}
		for format := range 3 {
			d, e, _ := cart.Convert(c, format)
			if e != api.OK {
				continue
			}
			if format != c.Format {
				turned++
			}
			if ce, cn := cart.Check(d); ce != api.OK || cn != 0 || d.Format != format {
				t.Fatalf("P1.5: turned to %d, %+v: Check is %d, %d", format, plain(c), ce, cn)
			}
			if back, e, n := cart.Convert(d, c.Format); e != api.OK || n != 0 || !same(back, c) {
				t.Fatalf("P1.5: %+v to %d and back: %d, %d, %+v", plain(c), format, e, n, plain(back))
			}
		}
	}
	if turned < 200 {
		t.Errorf("the dice turned only %d", turned)
	}
}
