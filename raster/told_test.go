package raster_test

import "tandem/api"

// The chapter's words a second time: a raster that counts the dots left of its line and the lines left of its frame, down to 0, and asks of a table what a line's dots do.

// told is a raster, valid or not.
type told struct {
	linesLeft, dotsLeft       int
	odd, vbl, nmi, draw, held bool
}

func open(r api.Raster) told {
	return told{261 - r.Line, 340 - r.Dot, r.Odd, r.Vbl, r.Nmi, r.Draw, r.Hold}
}

func (t told) shut() api.Raster {
	return api.Raster{Line: 261 - t.linesLeft, Dot: 340 - t.dotsLeft, Odd: t.odd, Vbl: t.vbl, Nmi: t.nmi, Draw: t.draw, Hold: t.held}
}

func (t told) valid() bool {
	if t.linesLeft < 0 || t.linesLeft > 261 || t.dotsLeft < 0 || t.dotsLeft > 340 {
		return false
	}
	if t.held && (t.linesLeft != 20 || t.dotsLeft != 340) {
		return false
	}
	if !t.vbl {
		return true
	}
	switch t.linesLeft {
	case 20: // line 241
		return t.dotsLeft != 340
	case 0: // line 261
		return t.dotsLeft == 340
	}
	return t.linesLeft < 20
}

// dot is one dot of a valid raster; it tells whether it is a clock.
func (t *told) dot() bool {
	t.dotsLeft--
	if t.dotsLeft == 0 && t.linesLeft == 0 && t.odd && t.draw {
		t.dotsLeft--
	}
	if t.dotsLeft < 0 {
		t.dotsLeft = 340
		t.linesLeft--
	}
	if t.linesLeft < 0 {
		t.linesLeft = 261
		t.odd = !t.odd
	}
	switch 1000*t.linesLeft + t.dotsLeft {
	case 20339: // (241, 1)
		if t.held {
			t.held = false
		} else {
			t.vbl = true
		}
	case 339: // (261, 1)
		t.vbl = false
	}
	return t.draw && t.dotsLeft == 80 && (t.linesLeft == 0 || t.linesLeft > 21)
}

// tick is three dots and their clocks.
func (t *told) tick() int {
	clocks := 0
	for range 3 {
		if t.dot() {
			clocks++
		}
	}
	return clocks
}

// line is the NMI line.
func (t told) line() bool { return t.vbl && t.nmi }
