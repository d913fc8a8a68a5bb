package raster

import "tandem/api"

// The screen and the clock.
const (
	lineDots  = 341
	lastDot   = lineDots - 1
	seenLines = 240
	blankLine = 241
	lastLine  = 261
	clockDot  = 260 // of a line that clocks the board
	cycleDots = 3
)

// A frame's dots are numbered from 0 on, and those of a pair of frames, an even one and the odd one behind it, as well. The even one is always whole.
const (
	frameDots   = (lastLine + 1) * lineDots
	setAt       = blankLine*lineDots + 1 // Vbl becomes true
	clearAt     = lastLine*lineDots + 1  // Vbl becomes false
	lastClockAt = lastLine*lineDots + clockDot
	drawnPair   = 2*frameDots - 1 // the dots of a pair that is drawn
	frameClocks = seenLines + 1
	pairClocks  = 2 * frameClocks
)

// inBlank tells whether Vbl may be true at a dot of a frame.
func inBlank(at int) bool {
	return at >= setAt && at < clearAt
}

// lengthOf is how many dots the raster's frame has.
func lengthOf(r api.Raster) int {
	if r.Odd && r.Draw {
		return frameDots - 1
	}
	return frameDots
}

// pairOf is how many dots a pair of frames has.
func pairOf(r api.Raster) int {
	if r.Draw {
		return drawnPair
	}
	return 2 * frameDots
}

// placeOf is the number of the raster's dot in its frame. The dot that a frame leaves out is as good as the one ahead of it: (0, 0) follows both.
func placeOf(r api.Raster) int {
	return min(r.Line*lineDots+r.Dot, lengthOf(r)-1)
}

// placeInPair is the number of the raster's dot in its pair of frames.
func placeInPair(r api.Raster) int {
	if r.Odd {
		return frameDots + placeOf(r)
	}
	return placeOf(r)
}

// moved is a raster some dots on, at least one and not so many that their number with a pair's overflows.
func moved(r api.Raster, dots int) api.Raster {
	at := (placeInPair(r) + dots) % pairOf(r)
	r.Odd = at >= frameDots
	at %= frameDots
	r.Line, r.Dot = at/lineDots, at%lineDots
	// In the blank, the dot of this number set Vbl, if it is one of those that went by; with Hold the first of them did not.
	setBy, first := dots-(at-setAt), 1
	if r.Hold {
		first = 2
	}
	r.Vbl = inBlank(at) && (r.Vbl || setBy >= first)
	r.Hold = false
	return r
}

// clocksTo is how many scanline clocks there are up to a dot, that one too, counted from the beginning of a pair that is drawn; further pairs may lie between.
func clocksTo(at int) int {
	pairs, at := at/drawnPair, at%drawnPair
	frames, at := at/frameDots, at%frameDots
	clocks := min(seenLines, (at+lineDots-clockDot)/lineDots)
	if at >= lastClockAt {
		clocks++
	}
	return pairs*pairClocks + frames*frameClocks + clocks
}

// clockAt is the dot of the k-th clock, counted as clocksTo counts.
func clockAt(k int) int {
	pairs, k := (k-1)/pairClocks, (k-1)%pairClocks
	frames, line := k/frameClocks, k%frameClocks
	if line == seenLines {
		line = lastLine
	}
	return pairs*drawnPair + frames*frameDots + line*lineDots + clockDot
}

// cyclesOf is how many cycles it takes until so many dots have gone by.
func cyclesOf(dots int) int {
	return (dots + cycleDots - 1) / cycleDots
}
