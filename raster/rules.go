package raster

import "tandem/api"

// beam is a raster in the midst of a dot.
type beam struct {
	api.Raster
	clock bool // the dot is a scanline clock
}

// dot is one dot of a valid raster: the rules, one behind the other.
func dot(r api.Raster) (api.Raster, bool) {
	rules := [...]func(beam) beam{beam.move, beam.turnFrame, beam.beginBlank, beam.endBlank, beam.tellClock}
	b := beam{Raster: r}
	for _, rule := range rules {
		b = rule(b)
	}
	return b.Raster, b.clock
}

// quiet tells whether the next cycle does no more than move along its line, as nearly all do: the rules' places are at dots 0, 1 and 260, and at a line's last two.
func quiet(r api.Raster) bool {
	end := r.Dot + cycleDots
	return r.Dot >= 1 && end < clockDot || r.Dot >= clockDot && end < lastDot
}

// is tells whether the beam is at a place.
func (b beam) is(line, dot int) bool {
	return b.Line == line && b.Dot == dot
}

// move goes on to the next place; an odd frame that is drawn leaves its last dot out.
func (b beam) move() beam {
	switch {
	case b.is(lastLine, lastDot), b.is(lastLine, lastDot-1) && b.Odd && b.Draw:
		b.Line, b.Dot = 0, 0
	case b.Dot == lastDot:
		b.Line, b.Dot = b.Line+1, 0
	default:
		b.Dot++
	}
	return b
}

// turnFrame: a new frame is odd if the old one was not.
func (b beam) turnFrame() beam {
	if b.is(0, 0) {
		b.Odd = !b.Odd
	}
	return b
}

// beginBlank sets the flag, unless a read has held it back.
func (b beam) beginBlank() beam {
	if b.is(blankLine, 1) {
		b.Vbl, b.Hold = b.Vbl || !b.Hold, false
	}
	return b
}

// endBlank clears the flag.
func (b beam) endBlank() beam {
	if b.is(lastLine, 1) {
		b.Vbl = false
	}
	return b
}

// tellClock tells whether the place clocks the board.
func (b beam) tellClock() beam {
	b.clock = b.Draw && b.Dot == clockDot && (b.Line < seenLines || b.Line == lastLine)
	return b
}
