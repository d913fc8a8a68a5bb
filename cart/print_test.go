package cart_test

import (
	"bytes"
	"math/rand"
	"testing"

	"tandem/api"
	"tandem/cart"
)

// TestPrintHeads: the header byte by byte, and the lists behind it in their order.
func TestPrintHeads(t *testing.T) {
	for _, r := range []struct {
		name string
		c    api.Cart
		want []byte
	}{
		{"archaic", archaic(), head(1, 0, 0x75, 4)},
		{"archaic with a battery", api.Cart{Mapper: 15, Four: true, Battery: true, PrgNv: 8192, Prg: list(32768, 1), Chr: list(16384, 2)}, head(2, 2, 0xfa, 4)},
		{"iNES", ines(), head(2, 1, 0x2a, 0x41, 3, 1)},
		{"iNES, one unit of work RAM", api.Cart{Format: 1, Mapper: 0xf1, PrgRam: 8192, ChrRam: 8192, Prg: list(16384, 1)}, head(1, 0, 0x10, 0xf0)},
		{"iNES, two units", api.Cart{Format: 1, PrgRam: 16384, ChrRam: 8192, Prg: list(16384, 1)}, head(1, 0, 0, 0, 2)},
		{"iNES, one unit that is kept", api.Cart{Format: 1, Battery: true, PrgNv: 8192, ChrRam: 8192, Prg: list(16384, 1)}, head(1, 0, 2)},
		{"iNES, 255 units", api.Cart{Format: 1, Console: 2, Battery: true, PrgNv: 255 * 8192, ChrRam: 8192, Prg: list(16384, 1), Rest: list(8192, 2)}, head(1, 0, 2, 2, 255)},
		{"NES 2.0", nes2(), head(13<<2|1, 3<<2|2, 0x17, 0x2b, 0x53, 0xff, 0x71, 0x2f, 2, 9, 2, 33)},
		{"NES 2.0, whole units of a power of two", api.Cart{Format: 2, Prg: list(3*16384, 1), Chr: list(8192, 2)}, head(3, 1, 0, 8)},
		{"NES 2.0, the greatest", api.Cart{Format: 2, Mapper: 4095, Sub: 15, Console: 1, Kind: 255, Timing: 3, Device: 63, Misc: 3, Prg: list(api.MaxPrg, 1), Chr: list(api.MaxChr, 2), Rest: list(3, 3)}, head(64, 64, 0xf0, 0xf9, 0xff, 0, 0, 0, 3, 255, 3, 63)},
		{"NES 2.0, one byte each", api.Cart{Format: 2, Prg: list(1, 1), Chr: list(1, 2)}, head(0, 0, 0, 8, 0, 0xff)},
		{"NES 2.0, 7 times 2 to the power of 5", api.Cart{Format: 2, Prg: list(7<<5, 1), Chr: list(8192, 2)}, head(5<<2|3, 1, 0, 8, 0, 0x0f)},
		{"NES 2.0, half a unit of CHR", api.Cart{Format: 2, Prg: list(16384, 1), Chr: list(4096, 2)}, head(1, 12<<2, 0, 8, 0, 0xf0)},
	} {
		want := append(append(append(append(r.want, r.c.Trainer...), r.c.Prg...), r.c.Chr...), r.c.Rest...)
		l, e, n := cart.Print(r.c)
		if e != api.OK || n != 0 || !bytes.Equal(l, want) {
			t.Errorf("P1.3: %s: %d, %d, % x, want % x", r.name, e, n, l[:min(len(l), 16)], want[:16])
		}
	}
}

// TestPrintRefuses: no bytes, and Check's error and number.
func TestPrintRefuses(t *testing.T) {
	for _, f := range []change{func(c *api.Cart) { c.Format = 3 }, mapper(-1), console(9), prgRam(5), trainer(7), prg(0), chr(9), rest(api.MaxImage), func(c *api.Cart) { *c = api.Cart{} }} {
		for _, good := range []func() api.Cart{archaic, ines, nes2} {
			c := good()
			f(&c)
			l, e, n := cart.Print(c)
			wantE, wantN := cart.Check(c)
			if wantE == api.OK || e != wantE || n != wantN || len(l) != 0 {
				t.Errorf("P1.3: %d, %d with %d bytes, want %d, %d", e, n, len(l), wantE, wantN)
			}
		}
	}
}

// TestThereAndBack: Parse of Print is the cartridge.
func TestThereAndBack(t *testing.T) {
	empty := nes2()
	empty.Misc, empty.Trainer, empty.Chr, empty.Rest = 0, []byte{}, []byte{}, []byte{}
	carts := []api.Cart{archaic(), ines(), nes2(), empty}
	dice := rand.New(rand.NewSource(2))
	for len(carts) < 3000 {
		if c := diceCart(dice); wrongNone(c) {
			carts = append(carts, c)
		}
	}
	for _, c := range carts {
		l, e, n := cart.Print(c)
		if e != api.OK || n != 0 {
			t.Fatalf("P1.4: Print of one that may be: %d, %d, %+v", e, n, plain(c))
		}
		d, e, at := cart.Parse(l)
		if e != api.OK || at != 0 || !same(c, d) {
			t.Fatalf("P1.4: Parse of Print: %d, %d, %+v, want %+v", e, at, plain(d), plain(c))
		}
	}
}

func wrongNone(c api.Cart) bool {
	e, _ := cart.Check(c)
	return e == api.OK
}

// diceCart is a cartridge that often may be.
func diceCart(dice *rand.Rand) api.Cart {
	flag := func() bool { return dice.Intn(2) == 0 }
	memory := func() int { return []int{0, 64 << (1 + dice.Intn(15))}[dice.Intn(2)] }
	c := api.Cart{Format: dice.Intn(3), Mapper: dice.Intn(16), Vert: flag(), Four: flag(), Battery: flag(), Prg: list(16384*(1+dice.Intn(2)), 1), Chr: list(8192*dice.Intn(3), 2), Trainer: list(512*dice.Intn(2), 3)}
	c.Rest = list(dice.Intn(4), 4)
	if c.Format < 2 {
		work := 8192
		if c.Format == 1 {
			work *= 1 + dice.Intn(255)
			c.Mapper, c.Console, c.Timing = dice.Intn(256), dice.Intn(3), dice.Intn(2)
			if c.Console == 2 {
				c.Rest = list(8192+dice.Intn(3), 4)
			}
		}
		c.PrgRam = work
		if c.Battery {
			c.PrgRam, c.PrgNv = 0, work
		}
		if len(c.Chr) == 0 {
			c.ChrRam = 8192
		}
		return c
	}
	c.Mapper, c.Sub, c.Console, c.Timing, c.Device, c.Misc = dice.Intn(4096), dice.Intn(16), dice.Intn(4), dice.Intn(4), dice.Intn(64), dice.Intn(4)
	c.PrgRam, c.PrgNv, c.ChrRam, c.ChrNv = memory(), memory(), memory(), memory()
	c.Kind = []int{0, dice.Intn(256), 0, dice.Intn(16)}[c.Console]
	if flag() {
		c.Prg = list((1+2*dice.Intn(4))<<dice.Intn(15), 1)
	}
	if flag() {
		c.Chr = list((1+2*dice.Intn(4))<<dice.Intn(15), 1)
	}
	return c
}

// TestImageThereAndBack: of an image that Parse takes, Check is OK and Print is as long, the same behind the header, read the same, and printed the same again.
func TestImageThereAndBack(t *testing.T) {
	dice := rand.New(rand.NewSource(3))
	images := [][]byte{
		image(head(1, 0, 0, 0, 1), 16384),                // one unit that is told
		image(head(14<<2, 13<<2, 0, 8, 0, 0xff), 24576),  // whole units by powers
		image(head(1, 0, 0, 0xff, 1, 2, 3, 4, 5), 16390), // junk
	}
	for len(images) < 2000 {
		b := diceImage(dice)
		if _, e, _ := cart.Parse(b); e == api.OK {
			images = append(images, b)
		}
	}
	for _, b := range images {
		c, _, _ := cart.Parse(b)
		if e, n := cart.Check(c); e != api.OK || n != 0 {
			t.Fatalf("P1.4: Check of Parse: %d, %d, % x", e, n, b[:16])
		}
		l, e, _ := cart.Print(c)
		if e != api.OK || len(l) != len(b) || !bytes.Equal(l[16:], b[16:]) {
			t.Fatalf("P1.4: Print of Parse: %d, % x, %d bytes, want %d", e, b[:16], len(l), len(b))
		}
		d, e, _ := cart.Parse(l)
		if e != api.OK || !same(c, d) {
			t.Fatalf("P1.4: Parse of Print of Parse: %d, % x", e, b[:16])
		}
		if m, e, _ := cart.Print(d); e != api.OK || !bytes.Equal(l, m) {
			t.Fatalf("P1.4: printed twice: %d, % x, % x", e, l[:16], m[:16])
		}
	}
}
