// Package cart: cartridge images: see the chapter 01-cart of the document.
package cart

import "tandem/api"

// Parse reads an image: the cartridge, OK or the error, the place of the fault.
func Parse(image []byte) (c api.Cart, e api.Errno, place int) {
	// The readers give up by panic wherever they stand; only here does a fault become an answer.
	defer func() {
		if f, ok := recover().(fault); ok {
			c, e, place = api.Cart{}, f.err, f.place
		}
	}()
	return read(image), api.OK, 0
}

// Check tells whether a cartridge may be printed: OK or the error, the number of the field that may not be as it is.
func Check(c api.Cart) (api.Errno, int) {
	if n := wrongField(c); n >= 0 {
		return api.ErrField, n
	}
	if imageLen(c) > api.MaxImage {
		return api.ErrLong, fieldRest
	}
	return api.OK, 0
}

// Convert is the cartridge in another format.
func Convert(c api.Cart, format int) (api.Cart, api.Errno, int) {
	if format < api.Archaic || format > api.Nes2 {
		return api.Cart{}, api.ErrArg, 0
	}
	if e, n := Check(c); e != api.OK {
		return api.Cart{}, e, n
	}
	d := c
	d.Format = format
	d.Misc = turnedMisc(c, format)
	if e, n := Check(d); e != api.OK {
		return api.Cart{}, api.ErrFormat, n
	}
	d.Trainer = clone(c.Trainer)
	d.Prg = clone(c.Prg)
	d.Chr = clone(c.Chr)
	d.Rest = clone(c.Rest)
	return d, api.OK, 0
}

// turnedMisc is Misc in another format: the older ones have no such number, so that one ROM is told by there being a rest.
func turnedMisc(c api.Cart, format int) int {
	switch {
	case c.Format != api.Nes2 && format == api.Nes2:
		return min(len(c.Rest), 1)
	case c.Format == api.Nes2 && format != api.Nes2 && c.Misc == 1:
		return 0
	}
	return c.Misc
}

// Print lays a cartridge down as an image.
func Print(c api.Cart) ([]byte, api.Errno, int) {
	if e, n := Check(c); e != api.OK {
		return nil, e, n
	}
	h := headOf(c)
	image := make([]byte, 0, imageLen(c))
	image = append(image, h[:]...)
	image = append(image, c.Trainer...)
	image = append(image, c.Prg...)
	image = append(image, c.Chr...)
	image = append(image, c.Rest...)
	return image, api.OK, 0
}

// Crc is the CRC-32 of bytes.
func Crc(data []byte) uint32 {
	return ^feed(^uint32(0), data)
}

// Sum is the CRC-32 of a cartridge's PRG and CHR, one behind the other.
func Sum(c api.Cart) uint32 {
	return ^feed(feed(^uint32(0), c.Prg), c.Chr)
}

// clone is a list's bytes in new memory without spare room; none for an empty one.
func clone(list []byte) []byte {
	if len(list) == 0 {
		return nil
	}
	out := make([]byte, len(list))
	copy(out, list)
	return out
}
