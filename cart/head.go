package cart

import (
	"math/bits"

	"tandem/api"
)

const (
	magic      = "NES\x1a"
	headLen    = 16
	trainerLen = 512
	ramUnit    = 8192 // bytes of work RAM or CHR-RAM that the two older formats count in
	hotelRom   = 8192 // bytes that an iNES image has behind CHR for a hotel board
	byPower    = 15   // in place of a size's high bits: the low byte is a power of two and an odd number
)

// Kinds of consoles.
const (
	home = iota
	arcade
	hotel
	another
)

// header is the first bytes of an image.
type header [headLen]uint8

// format is the format that a header is told in.
func (h header) format() int {
	switch {
	case h[7]&0x0c == 0x08:
		return api.Nes2
	case h[7]&0x0c == 0 && h[12]|h[13]|h[14]|h[15] == 0:
		return api.INes
	}
	return api.Archaic
}

// reserved is the bits of each byte that must be clear.
func (h header) reserved() header {
	switch h.format() {
	case api.INes:
		out := header{9: 0xfe, 10: 0xff, 11: 0xff}
		if h[7]&3 == another {
			out[7] = 3
		}
		return out
	case api.Nes2:
		return header{12: 0xfc, 13: ^uint8(greatestKind(int(h[7] & 3))), 14: 0xfc, 15: 0xc0}
	}
	return header{}
}

// greatestKind is the greatest Kind that a console has in NES 2.0.
func greatestKind(console int) int {
	switch console {
	case arcade:
		return 255
	case another:
		return 15
	}
	return 0
}

// fields is the cartridge that a header tells, without its lists and what hangs on them.
func (h header) fields() api.Cart {
	c := api.Cart{
		Format:  h.format(),
		Mapper:  int(h[6] >> 4),
		Vert:    h[6]&1 != 0,
		Battery: h[6]&2 != 0,
		Four:    h[6]&8 != 0,
	}
	switch c.Format {
	case api.Archaic:
		setWork(&c, 1)
	case api.INes:
		c.Mapper |= int(h[7] & 0xf0)
		c.Console = int(h[7] & 3)
		c.Timing = int(h[9] & 1)
		setWork(&c, max(int(h[8]), 1))
	case api.Nes2:
		h.nes2Fields(&c)
	}
	return c
}

// setWork puts the work RAM of the two older formats, where Battery alone says which of the two kinds it is.
func setWork(c *api.Cart, units int) {
	if c.Battery {
		c.PrgNv = units * ramUnit
	} else {
		c.PrgRam = units * ramUnit
	}
}

// nes2Fields puts what NES 2.0 alone tells.
func (h header) nes2Fields(c *api.Cart) {
	c.Mapper |= int(h[7]&0xf0) | int(h[8]&15)<<8
	c.Sub = int(h[8] >> 4)
	c.Console = int(h[7] & 3)
	c.Kind = int(h[13])
	c.Timing = int(h[12] & 3)
	c.Device = int(h[15] & 63)
	c.Misc = int(h[14] & 3)
	c.PrgRam = ramSize(h[10] & 15)
	c.PrgNv = ramSize(h[10] >> 4)
	c.ChrRam = ramSize(h[11] & 15)
	c.ChrNv = ramSize(h[11] >> 4)
}

// ramSize is the bytes of a memory that NES 2.0 tells by four bits.
func ramSize(n uint8) int {
	if n == 0 {
		return 0
	}
	return 64 << n
}

// ramBits is the four bits that tell a memory's size.
func ramBits(size int) uint8 {
	if size == 0 {
		return 0
	}
	return uint8(bits.TrailingZeros(uint(size / 64)))
}

// sizes is the bytes of PRG and of CHR.
func (h header) sizes() (prg, chr int) {
	var high uint8
	if h.format() == api.Nes2 {
		high = h[9]
	}
	return romSize(h[4], high&15, api.PrgUnit), romSize(h[5], high>>4, api.ChrUnit)
}

// romSize is the bytes that a low byte and four high bits tell.
func romSize(low, high uint8, unit int) int {
	if high != byPower {
		return (int(high)<<8 | int(low)) * unit
	}
	odd := 2*int(low&3) + 1
	// A greater power is above every limit as well, but would not fit an int.
	return odd << min(low>>2, 32)
}

// romBits is the low byte and the four high bits that tell a size; no size that may be has so many units that they need the high bits.
func romBits(size, unit int) (low, high uint8) {
	if size%unit == 0 {
		return uint8(size / unit), 0
	}
	power := bits.TrailingZeros(uint(size))
	odd := size >> power
	return uint8(power<<2 | odd>>1), byPower
}

// headOf is the header that tells a cartridge which Check takes.
func headOf(c api.Cart) header {
	var h header
	copy(h[:], magic)
	prgLow, prgHigh := romBits(len(c.Prg), api.PrgUnit)
	chrLow, chrHigh := romBits(len(c.Chr), api.ChrUnit)
	h[4] = prgLow
	h[5] = chrLow
	h[6] = bit(c.Vert, 0) | bit(c.Battery, 1) | bit(len(c.Trainer) > 0, 2) | bit(c.Four, 3) | uint8(c.Mapper&15)<<4
	h[7] = uint8(c.Mapper&0xf0) | uint8(c.Console)
	switch c.Format {
	case api.Archaic:
		h[7] = 0x04 // neither of the other formats has these bits
	case api.INes:
		if work := c.PrgRam + c.PrgNv; work > ramUnit {
			h[8] = uint8(work / ramUnit)
		}
		h[9] = uint8(c.Timing)
	case api.Nes2:
		h[7] |= 0x08
		h[8] = uint8(c.Mapper>>8) | uint8(c.Sub)<<4
		h[9] = prgHigh | chrHigh<<4
		h[10] = ramBits(c.PrgRam) | ramBits(c.PrgNv)<<4
		h[11] = ramBits(c.ChrRam) | ramBits(c.ChrNv)<<4
		h[12] = uint8(c.Timing)
		h[13] = uint8(c.Kind)
		h[14] = uint8(c.Misc)
		h[15] = uint8(c.Device)
	}
	return h
}

// bit is a bit of that number, set if the flag is.
func bit(set bool, number int) uint8 {
	if !set {
		return 0
	}
	return 1 << number
}
