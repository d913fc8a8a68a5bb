package raster

import "tandem/api"

// The bits of the registers that the raster has to do with.
const (
	statusVbl = 0x80
	ctrlNmi   = 0x80
	maskDraw  = 0x18
)

// Status is a read of $2002: bit 7 alone, the raster behind it.
func Status(r api.Raster) (uint8, api.Raster) {
	if !Valid(r) {
		return 0, r
	}
	v := uint8(0)
	if r.Vbl {
		v = statusVbl
	}
	r.Vbl = false
	if placeOf(r) == setAt-1 {
		r.Hold = true
	}
	return v, r
}

// Ctrl is a write to $2000.
func Ctrl(r api.Raster, v uint8) api.Raster {
	if Valid(r) {
		r.Nmi = v&ctrlNmi != 0
	}
	return r
}

// Mask is a write to $2001.
func Mask(r api.Raster, v uint8) api.Raster {
	if Valid(r) {
		r.Draw = v&maskDraw != 0
	}
	return r
}
