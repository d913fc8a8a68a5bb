package mapper

import "tandem/api"

// unbanked is the submapper of MMC1 whose PRG stands.
const unbanked = 5

const (
	shiftStart = 0x10 // the 1 that falls out with the fifth bit
	fiveBits   = 31
	fixedLast  = 0x0c // Ctrl: window 2 and 3 show the last banks
	noWrite    = -2   // no cycle that is the one ahead of another
)

// mmc1 has four registers behind a serial one.
type mmc1 struct {
	shared
	shift, ctrl, chrA, chrB, prgR uint8
	last                          int
}

func (m *mmc1) powerOn() {
	m.shift = shiftStart
	m.ctrl = fixedLast
	m.last = noWrite
}

func (m *mmc1) registersFit() bool {
	return m.shift > 0 && max(m.shift, m.ctrl, m.chrA, m.chrB, m.prgR) <= fiveBits &&
		(m.last == noWrite || m.last >= 0)
}

func (m *mmc1) bank(window int) int {
	if m.sub == unbanked {
		return m.shared.bank(window)
	}
	outer, last := m.half()
	n := int(m.prgR & 15)
	upper := window >= 2
	switch mode := m.ctrl >> 2 & 3; {
	case mode < 2:
		return m.inPrg(outer + 2*(n&^1) + window)
	case mode == 2 && upper:
		return m.inPrg(outer + 2*n + window - 2)
	case mode == 2:
		return m.inPrg(outer + window)
	case upper:
		return m.inPrg(outer + last + window - 2)
	}
	return m.inPrg(outer + 2*n + window)
}

// half is where the 256 KiB begin that PrgR reaches, and how far behind that their last 16 KiB lie.
func (m *mmc1) half() (outer, last int) {
	const reach = 32
	switch {
	case m.prg <= reach:
		return 0, m.prg - 2
	case m.chrA&0x10 != 0:
		return reach, reach - 2
	}
	return 0, reach - 2
}

func (m *mmc1) chrBank(slot int) int {
	switch {
	case m.ctrl&0x10 == 0:
		return m.inChr(4*int(m.chrA&^1) + slot)
	case slot < 4:
		return m.inChr(4*int(m.chrA) + slot)
	}
	return m.inChr(4*int(m.chrB) + slot - 4)
}

func (m *mmc1) mirror() api.Mirror {
	four := [4]api.Mirror{api.OneLow, api.OneHigh, api.Vertical, api.Horizontal}
	return m.unlessWired(four[m.ctrl&3])
}

func (m *mmc1) workMode() int {
	if m.prgR&0x10 != 0 {
		return ramShut
	}
	return ramOpen
}

func (m *mmc1) write(addr uint16, v, _ uint8, cycle int) {
	lost := cycle-1 == m.last
	m.last = cycle
	switch {
	case lost:
	case v&0x80 != 0:
		m.shift = shiftStart
		m.ctrl |= fixedLast
	default:
		m.push(addr, v&1)
	}
}

// push lets one bit into the serial register; the fifth sends all of them on.
func (m *mmc1) push(addr uint16, bit uint8) {
	full := m.shift&1 != 0
	t := m.shift>>1 | bit<<4
	if !full {
		m.shift = t
		return
	}
	m.shift = shiftStart
	switch addr >> 13 & 3 {
	case 0:
		m.ctrl = t
	case 1:
		m.chrA = t
	case 2:
		m.chrB = t
	case 3:
		m.prgR = t
	}
}
