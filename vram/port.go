package vram

import "tandem/api"

// The registers, by the lowest three bits of their address.
const (
	regCtrl = iota
	regMask
	regStatus
	regOamAt
	regOam
	regScroll
	regAddr
	regData
)

// regBits is what of a register's number is looked at.
const regBits = 7

// Bits of the registers.
const (
	ctrlWide   = 0x04
	maskGrey   = 0x01
	statusBits = 0xe0
	greyBits   = 0x30 // that a palette entry keeps
)

// The parts of T.
const (
	coarseX   = 0x001f
	coarseY   = 0x03e0
	tablesOfT = 0x0c00
	fineY     = 0x7000
	lowByte   = 0x00ff
	highByte  = 0x7f00 // bit 14 with it, which no write of this byte sets
	highBits  = 0x3f   // that are taken into the high byte
)

// How far V goes on with an access of register 7, and how far beneath the palette the name table lies that is read with it.
const (
	step     = 1
	wideStep = 32
	beneath  = 0x1000
)

// withBits is t with the bits of a mask taken from val.
func withBits(t, mask, val uint16) uint16 {
	return t&^mask | val&mask
}

// readData is a read of register 7; behind it V has gone on.
func readData(v *api.Video, b api.Board, chr []byte) uint8 {
	got := v.Buf
	at := v.V % memorySize
	if at >= paletteStart {
		got = colourAt(v, at) | v.Io&^colourBits
		at -= beneath
	}
	v.Buf = peek(v, b, chr, at)
	goOn(v)
	return got
}

// colourAt is a palette entry as register 7 gives it.
func colourAt(v *api.Video, addr uint16) uint8 {
	colour := v.Pal[entryAt(addr)]
	if v.Grey {
		colour &= greyBits
	}
	return colour
}

// goOn moves V behind an access of register 7.
func goOn(v *api.Video) {
	if v.Wide {
		v.V += wideStep
	} else {
		v.V += step
	}
	v.V &= most15
}

// writeScroll is a write to register 5, across and then down.
func writeScroll(v *api.Video, val uint8) {
	coarse, fine := uint16(val>>3), val&mostX
	if v.W {
		v.T = withBits(v.T, fineY, uint16(fine)<<12)
		v.T = withBits(v.T, coarseY, coarse<<5)
	} else {
		v.T = withBits(v.T, coarseX, coarse)
		v.X = fine
	}
	v.W = !v.W
}

// writeAddr is a write to register 6, the high byte and then the low one.
func writeAddr(v *api.Video, val uint8) {
	if v.W {
		v.T = withBits(v.T, lowByte, uint16(val))
		v.V = v.T
	} else {
		v.T = withBits(v.T, highByte, uint16(val&highBits)<<8)
	}
	v.W = !v.W
}
