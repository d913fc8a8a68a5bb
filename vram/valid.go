package vram

import (
	"tandem/api"
	"tandem/mapper"
)

// The greatest values of the registers that have not all bits of their type.
const (
	most15 = 0x7fff // V, T
	mostX  = 7
)

// valid is Valid, of a memory that is not copied for it.
func valid(v *api.Video, b api.Board) bool {
	return fits(v) && mapper.Valid(b) && (b.ChrRam || v.Chr == [chrSize]uint8{})
}

// fits is what can be told of a memory without its board.
func fits(v *api.Video) bool {
	return v.V <= most15 && v.T <= most15 && v.X <= mostX && oamFits(v) && paletteFits(v)
}

// oamFits tells whether the sprites' third bytes have only the bits that a write leaves.
func oamFits(v *api.Video) bool {
	for at := thirdByte; at < oamSize; at += spriteSize {
		if v.Oam[at]&^thirdBits != 0 {
			return false
		}
	}
	return true
}

// paletteFits tells whether all entries are colours, and those 0 that no address reaches.
func paletteFits(v *api.Video) bool {
	for entry, colour := range v.Pal {
		if colour > colourBits || colour != 0 && entryAt(uint16(entry)) != entry {
			return false
		}
	}
	return true
}
