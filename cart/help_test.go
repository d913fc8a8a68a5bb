package cart_test

import (
	"bytes"
	"math/big"
	"slices"
	"testing"

	"tandem/api"
)

// head is the four bytes, these ones, and zeros up to 16.
func head(h ...byte) []byte {
	out := make([]byte, 16)
	copy(out, "NES\x1a")
	copy(out[4:], h)
	return out
}

// image is a header with so many bytes behind it, no two neighbours of which are alike.
func image(h []byte, n int) []byte {
	out := make([]byte, len(h)+n)
	copy(out, h)
	for i := range n {
		out[len(h)+i] = byte(i*7 + i>>8*3 + 1)
	}
	return out
}

// list is n bytes that tell their seed.
func list(n int, seed byte) []byte {
	out := make([]byte, n)
	for i := range out {
		out[i] = byte(i*5) + byte(i>>8) ^ seed
	}
	return out
}

// plain is a cartridge without its lists.
func plain(c api.Cart) api.Cart {
	c.Trainer, c.Prg, c.Chr, c.Rest = nil, nil, nil, nil
	return c
}

// same tells whether two cartridges are; nil and empty lists are.
func same(a, b api.Cart) bool {
	return numbers(a) == numbers(b) && bytes.Equal(a.Trainer, b.Trainer) && bytes.Equal(a.Prg, b.Prg) && bytes.Equal(a.Chr, b.Chr) && bytes.Equal(a.Rest, b.Rest)
}

// numbers is the fields that are no lists, as something that can be compared.
func numbers(c api.Cart) [15]int {
	flag := func(b bool) int {
		if b {
			return 1
		}
		return 0
	}
	return [15]int{c.Format, c.Mapper, c.Sub, flag(c.Vert), flag(c.Four), flag(c.Battery), c.Console, c.Kind, c.Timing, c.Device, c.Misc, c.PrgRam, c.PrgNv, c.ChrRam, c.ChrNv}
}

// copied is a cartridge with lists of its own.
func copied(c api.Cart) api.Cart {
	c.Trainer = slices.Clone(c.Trainer)
	c.Prg = slices.Clone(c.Prg)
	c.Chr = slices.Clone(c.Chr)
	c.Rest = slices.Clone(c.Rest)
	return c
}

// archaic, ines and nes2 are cartridges that may be printed, one of each format.
func archaic() api.Cart {
	return api.Cart{Format: 0, Mapper: 7, Vert: true, PrgRam: 8192, ChrRam: 8192, Trainer: list(512, 1), Prg: list(16384, 2), Rest: list(3, 4)}
}

func ines() api.Cart {
	return api.Cart{Format: 1, Mapper: 0x42, Four: true, Battery: true, Console: 1, Timing: 1, PrgNv: 3 * 8192, Prg: list(32768, 2), Chr: list(8192, 3), Rest: list(9, 4)}
}

func nes2() api.Cart {
	return api.Cart{Format: 2, Mapper: 0x321, Sub: 5, Vert: true, Battery: true, Console: 3, Kind: 9, Timing: 2, Device: 33, Misc: 2, PrgRam: 128, PrgNv: 8192, ChrRam: 64 << 15, ChrNv: 256, Trainer: list(512, 1), Prg: list(24576, 2), Chr: list(40, 3), Rest: list(2, 4)}
}

// wantRefused holds an answer with an error against the error and its place.
func wantRefused(t *testing.T, name string, c api.Cart, e api.Errno, at int, wantE api.Errno, wantAt int) {
	t.Helper()
	if e != wantE || at != wantAt {
		t.Errorf("%s: %d, %d, want %d, %d", name, e, at, wantE, wantAt)
	}
	if !same(c, api.Cart{}) {
		t.Errorf("%s: not the zero cartridge beside the error", name)
	}
}

// told is the document's reading of an image, word by word; sizes are whole numbers of any size.
func told(b []byte) (api.Cart, api.Errno, int) {
	if len(b) > 2097152 {
		return api.Cart{}, api.ErrLong, 0
	}
	for i, m := range []byte{0x4e, 0x45, 0x53, 0x1a} {
		if i >= len(b) {
			return api.Cart{}, api.ErrShort, len(b)
		}
		if b[i] != m {
			return api.Cart{}, api.ErrMagic, i
		}
	}
	if len(b) < 16 {
		return api.Cart{}, api.ErrShort, len(b)
	}
	c := api.Cart{Vert: b[6]>>0&1 == 1, Battery: b[6]>>1&1 == 1, Four: b[6]>>3&1 == 1, Mapper: int(b[6]) / 16}
	c.Format = toldFormat(b)
	prg, chr := toldSizes(b)
	work := 8192
	if at := toldReserved(b, c.Format); at > 0 {
		return api.Cart{}, api.ErrReserved, at
	}
	if c.Format == 1 {
		c.Mapper += int(b[7]) / 16 * 16
		c.Console = int(b[7]) % 4
		c.Timing = int(b[9]) % 2
		if b[8] > 0 {
			work = 8192 * int(b[8])
		}
	}
	if c.Format == 2 {
		toldNes2(&c, b)
	} else if c.Battery {
		c.PrgNv = work
	} else {
		c.PrgRam = work
	}
	if prg.Sign() == 0 || prg.Cmp(big.NewInt(1048576)) > 0 {
		return api.Cart{}, api.ErrPrg, 4
	}
	if chr.Cmp(big.NewInt(524288)) > 0 {
		return api.Cart{}, api.ErrChr, 5
	}
	if c.Format < 2 && chr.Sign() == 0 {
		c.ChrRam = 8192
	}
	return toldLists(c, b, int(prg.Int64()), int(chr.Int64()))
}

func toldFormat(b []byte) int {
	switch {
	case b[7]>>3&1 == 1 && b[7]>>2&1 == 0:
		return 2
	case b[7]>>3&1 == 0 && b[7]>>2&1 == 0 && b[12] == 0 && b[13] == 0 && b[14] == 0 && b[15] == 0:
		return 1
	}
	return 0
}

// toldReserved is the lowest place with a reserved bit that is set; 0: none.
func toldReserved(b []byte, format int) int {
	switch format {
	case 1:
		switch {
		case b[7]%4 == 3:
			return 7
		case b[9] > 1:
			return 9
		case b[10] > 0:
			return 10
		case b[11] > 0:
			return 11
		}
	case 2:
		most := []byte{0, 255, 0, 15}[b[7]%4]
		switch {
		case b[12] > 3:
			return 12
		case b[13] > most:
			return 13
		case b[14] > 3:
			return 14
		case b[15] > 63:
			return 15
		}
	}
	return 0
}

func toldNes2(c *api.Cart, b []byte) {
	c.Mapper += int(b[7])/16*16 + int(b[8])%16*256
	c.Sub = int(b[8]) / 16
	c.Console = int(b[7]) % 4
	c.Timing, c.Kind, c.Misc, c.Device = int(b[12]), int(b[13]), int(b[14]), int(b[15])
	memory := func(n byte) int {
		if n == 0 {
			return 0
		}
		m := 64
		for range n {
			m *= 2
		}
		return m
	}
	c.PrgRam, c.PrgNv, c.ChrRam, c.ChrNv = memory(b[10]%16), memory(b[10]/16), memory(b[11]%16), memory(b[11]/16)
}

func toldSizes(b []byte) (prg, chr *big.Int) {
	if toldFormat(b) < 2 {
		return toldSize(0, b[4], 16384), toldSize(0, b[5], 8192)
	}
	return toldSize(b[9]%16, b[4], 16384), toldSize(b[9]/16, b[5], 8192)
}

func toldSize(high, low byte, unit int64) *big.Int {
	if high < 15 {
		return big.NewInt((256*int64(high) + int64(low)) * unit)
	}
	power := new(big.Int).Exp(big.NewInt(2), big.NewInt(int64(low/4)), nil)
	return power.Mul(power, big.NewInt([]int64{1, 3, 5, 7}[low%4]))
}

func toldLists(c api.Cart, b []byte, prg, chr int) (api.Cart, api.Errno, int) {
	trainer := 0
	if b[6]>>2&1 == 1 {
		trainer = 512
	}
	end := 16 + trainer + prg + chr
	if len(b) < end {
		return api.Cart{}, api.ErrShort, len(b)
	}
	rest := len(b) - end
	switch {
	case c.Format == 1 && c.Console == 2 && rest < 8192:
		return api.Cart{}, api.ErrShort, len(b)
	case c.Format == 2 && c.Misc == 0 && rest > 0:
		return api.Cart{}, api.ErrTail, end
	case c.Format == 2 && rest < c.Misc:
		return api.Cart{}, api.ErrShort, len(b)
	}
	c.Trainer = b[16 : 16+trainer]
	c.Prg = b[16+trainer : 16+trainer+prg]
	c.Chr = b[16+trainer+prg : end]
	c.Rest = b[end:]
	return c, api.OK, 0
}
