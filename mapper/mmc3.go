package mapper

import "tandem/api"

// olderCounter is the submapper of MMC3 whose counter asks only when it comes down to 0 or was told to load.
const olderCounter = 4

const (
	selBits   = 0xc7
	guardBits = 0xc0
	guardOn   = 0x80 // Guard: work RAM answers
	guardRead = 0x40 // Guard: it can't be written
	prgTurned = 0x40 // Sel: windows 0 and 2 change places
	chrTurned = 0x80 // Sel: the halves of CHR change places
	prgReach  = 64   // banks that a register can name
)

// mmc3 has eight bank registers and a counter of scanlines.
type mmc3 struct {
	shared
	sel   uint8
	r     [8]uint8
	turn  uint8
	guard uint8
	irq   counter
}

func (m *mmc3) powerOn() {
	m.r = [8]uint8{0, 2, 4, 5, 6, 7, 0, 1}
	m.guard = guardOn
}

func (m *mmc3) registersFit() bool {
	return m.sel&^selBits == 0 && m.turn <= 1 && m.guard&^guardBits == 0 && m.irq.fits()
}

func (m *mmc3) bank(window int) int {
	if m.sel&prgTurned != 0 && window%2 == 0 {
		window ^= 2
	}
	switch window {
	case 0:
		return m.inPrg(int(m.r[6] % prgReach))
	case 1:
		return m.inPrg(int(m.r[7] % prgReach))
	}
	return m.inPrg(m.prg - windows + window)
}

func (m *mmc3) chrBank(slot int) int {
	if m.sel&chrTurned != 0 {
		slot ^= 4
	}
	if slot < 4 {
		return m.inChr(int(m.r[slot/2]&^1) + slot%2)
	}
	return m.inChr(int(m.r[slot-2]))
}

func (m *mmc3) mirror() api.Mirror {
	if m.turn == 0 {
		return m.unlessWired(api.Vertical)
	}
	return m.unlessWired(api.Horizontal)
}

func (m *mmc3) workMode() int {
	switch {
	case m.guard&guardOn == 0:
		return ramShut
	case m.guard&guardRead != 0:
		return ramRead
	}
	return ramOpen
}

func (m *mmc3) write(addr uint16, v, _ uint8, _ int) {
	switch addr & 0xe001 {
	case 0x8000:
		m.sel = v & selBits
	case 0x8001:
		m.r[m.sel&7] = v
	case 0xa000:
		m.turn = v & 1
	case 0xa001:
		m.guard = v & guardBits
	case 0xc000:
		m.irq.latch = v
	case 0xc001:
		m.irq.count, m.irq.load = 0, true
	case 0xe000:
		m.irq.on, m.irq.asks = false, false
	case 0xe001:
		m.irq.on = true
	}
}

func (m *mmc3) clock(n int) {
	m.irq.clock(n, m.sub == olderCounter)
}

func (m *mmc3) toIrq() int {
	switch {
	case m.irq.asks:
		return 0
	case !m.irq.on:
		return -1
	}
	return m.irq.toZero(m.sub == olderCounter)
}

// counter counts scanlines down, and asks for an interrupt at 0.
type counter struct {
	latch, count   uint8
	load, on, asks bool
}

func (c *counter) fits() bool {
	return (!c.load || c.count == 0) && (!c.asks || c.on)
}

// clock is n clocks at once, n above 0: behind the first 0 the count goes round, latch and all below it.
func (c *counter) clock(n int, older bool) {
	if k := c.toZero(older); c.on && k > 0 && k <= n {
		c.asks = true
	}
	c.load = false
	if n <= int(c.count) {
		c.count -= uint8(n)
		return
	}
	period := int(c.latch) + 1
	if r := (n - int(c.count)) % period; r > 0 {
		c.count = uint8(period - r)
	} else {
		c.count = 0
	}
}

// toZero is how many clocks away the next 0 is that counts; -1 if none comes.
func (c *counter) toZero(older bool) int {
	switch {
	case c.count > 0:
		return int(c.count)
	case older && c.latch == 0 && !c.load:
		return -1
	}
	return int(c.latch) + 1
}
