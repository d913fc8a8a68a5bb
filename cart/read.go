package cart

import "tandem/api"

// fault is what a reader panics with.
type fault struct {
	err   api.Errno
	place int
}

// giveUp ends the reading from wherever it stands.
func giveUp(err api.Errno, place int) {
	panic(fault{err, place})
}

// read is the cartridge of an image; it gives up at the first fault.
func read(image []byte) api.Cart {
	if len(image) > api.MaxImage {
		giveUp(api.ErrLong, 0)
	}
	h := readHead(image)
	c := h.fields()
	prg, chr := h.sizes()
	if prg == 0 || prg > api.MaxPrg {
		giveUp(api.ErrPrg, 4)
	}
	if chr > api.MaxChr {
		giveUp(api.ErrChr, 5)
	}
	r := reader{image, headLen}
	if h[6]&4 != 0 {
		c.Trainer = r.take(trainerLen)
	}
	c.Prg = r.take(prg)
	c.Chr = r.take(chr)
	if c.Format != api.Nes2 {
		c.ChrRam = impliedChrRam(c)
	}
	c.Rest = r.takeRest(c)
	return c
}

// readHead is the header of an image that has one, with no bit set that must be clear.
func readHead(image []byte) header {
	for i := range len(magic) {
		if i >= len(image) {
			giveUp(api.ErrShort, len(image))
		}
		if image[i] != magic[i] {
			giveUp(api.ErrMagic, i)
		}
	}
	if len(image) < headLen {
		giveUp(api.ErrShort, len(image))
	}
	var h header
	copy(h[:], image)
	for i, barred := range h.reserved() {
		if h[i]&barred != 0 {
			giveUp(api.ErrReserved, i)
		}
	}
	return h
}

// reader goes through the lists behind the header.
type reader struct {
	image []byte
	at    int
}

// left is how many bytes are still to be read.
func (r *reader) left() int {
	return len(r.image) - r.at
}

// take is the next n bytes, in new memory.
func (r *reader) take(n int) []byte {
	if r.left() < n {
		giveUp(api.ErrShort, len(r.image))
	}
	list := clone(r.image[r.at : r.at+n])
	r.at += n
	return list
}

// takeRest is all bytes that are left, if the cartridge may have so many.
func (r *reader) takeRest(c api.Cart) []byte {
	if restBarred(c) && r.left() > 0 {
		giveUp(api.ErrTail, r.at)
	}
	if r.left() < leastRest(c) {
		giveUp(api.ErrShort, len(r.image))
	}
	return r.take(r.left())
}
