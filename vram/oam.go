package vram

import "tandem/api"

// The sprites' list.
const (
	oamSize    = 256
	spriteSize = 4
	thirdByte  = 2    // the place in a sprite of the byte that lacks bits
	thirdBits  = 0xe3 // that it has
)

// writeOam is a write to register 4.
func writeOam(v *api.Video, val uint8) {
	if v.OamAt%spriteSize == thirdByte {
		val &= thirdBits
	}
	v.Oam[v.OamAt] = val
	v.OamAt++
}

// fillOam is a write to register 4 of each byte of a list: two runs, up to the end of OAM and from its beginning on.
func fillOam(v *api.Video, from []byte) {
	// What a later byte is written over needs no writing.
	skipped := max(0, len(from)-oamSize)
	at := int(v.OamAt + uint8(skipped))
	v.OamAt += uint8(len(from))
	from = from[skipped:]
	n := copy(v.Oam[at:oamSize:oamSize], from)
	copy(v.Oam[:at:at], from[n:])
	for third := thirdByte; third < oamSize; third += spriteSize {
		v.Oam[third] &= thirdBits
	}
}
