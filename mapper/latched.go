package mapper

import "tandem/api"

// conflicting is the submapper of the boards whose PRG answers while the latch is written.
const conflicting = 2

// nrom has no register at all.
type nrom struct {
	shared
}

// latched is a board with one register, wherever it is written.
type latched struct {
	shared
	latch uint8
}

func (l *latched) write(_ uint16, v, under uint8, _ int) {
	if l.sub == conflicting {
		v &= under
	}
	l.latch = v
}

// uxrom switches 16 KiB of PRG ahead of the last ones, which stand.
type uxrom struct {
	latched
}

func (u *uxrom) bank(window int) int {
	if window < 2 {
		return u.inPrg(2*int(u.latch) + window)
	}
	return u.inPrg(u.prg - windows + window)
}

// cnrom switches all of CHR.
type cnrom struct {
	latched
}

func (c *cnrom) chrBank(slot int) int {
	return c.inChr(slots*int(c.latch) + slot)
}

// axrom switches all of PRG, and which page every name table is.
type axrom struct {
	latched
}

func (a *axrom) bank(window int) int {
	return a.inPrg(windows*int(a.latch&15) + window)
}

func (a *axrom) mirror() api.Mirror {
	if a.latch&0x10 == 0 {
		return a.unlessWired(api.OneLow)
	}
	return a.unlessWired(api.OneHigh)
}
