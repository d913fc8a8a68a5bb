package mapper

import "tandem/api"

// What a RamMode may be.
const (
	ramShut = 0
	ramRead = 1
	ramOpen = 2
)

// board is one of the six kinds. Whoever calls bank or chrBank has seen to it that there is such a window or slot.
type board interface {
	powerOn()
	sizesFit() bool
	registersFit() bool
	bank(window int) int
	chrBank(slot int) int
	mirror() api.Mirror
	hasWork() bool
	workMode() int
	write(addr uint16, v, under uint8, cycle int)
	nextEpoch()
	clock(n int)
	toIrq() int
}

// listed tells whether a kind is one of the six, and the submapper one of that kind's.
func listed(kind, sub int) bool {
	switch kind {
	case api.NROM:
		return sub == 0
	case api.MMC1:
		return sub == 0 || sub == unbanked
	case api.UxROM, api.CNROM, api.AxROM:
		return sub >= 0 && sub <= conflicting
	case api.MMC3:
		return sub == 0 || sub == olderCounter
	}
	return false
}

// open is a board as its own kind; nil if it isn't valid.
func open(b api.Board) board {
	if !listed(b.Kind, b.Sub) {
		return nil
	}
	m := kindOf(b)
	// A kind keeps only what it uses, so that a field which it doesn't use is lost on the way through it.
	if plain(m) != b || !m.sizesFit() || !m.registersFit() {
		return nil
	}
	return m
}

// kindOf makes the kind's own type out of a plain value, which is of one of the six.
func kindOf(b api.Board) board {
	s := sharedOf(b)
	switch b.Kind {
	case api.MMC1:
		return &mmc1{s, b.Shift, b.Ctrl, b.ChrA, b.ChrB, b.PrgR, b.Last}
	case api.UxROM:
		return &uxrom{latched{s, b.Latch}}
	case api.CNROM:
		return &cnrom{latched{s, b.Latch}}
	case api.MMC3:
		return &mmc3{s, b.Sel, b.R, b.Turn, b.Guard, counter{b.IrqLatch, b.IrqCount, b.IrqLoad, b.IrqOn, b.Irq}}
	case api.AxROM:
		return &axrom{latched{s, b.Latch}}
	}
	return &nrom{s}
}

// plain takes the plain value back out of a kind's own type.
func plain(m board) api.Board {
	var b api.Board
	switch m := m.(type) {
	case *nrom:
		b = m.plainOf(api.NROM)
	case *mmc1:
		b = m.plainOf(api.MMC1)
		b.Shift, b.Ctrl, b.ChrA, b.ChrB, b.PrgR, b.Last = m.shift, m.ctrl, m.chrA, m.chrB, m.prgR, m.last
	case *uxrom:
		b = m.plainOf(api.UxROM)
		b.Latch = m.latch
	case *cnrom:
		b = m.plainOf(api.CNROM)
		b.Latch = m.latch
	case *mmc3:
		b = m.plainOf(api.MMC3)
		b.Sel, b.R, b.Turn, b.Guard = m.sel, m.r, m.turn, m.guard
		b.IrqLatch, b.IrqCount, b.IrqLoad, b.IrqOn, b.Irq = m.irq.latch, m.irq.count, m.irq.load, m.irq.on, m.irq.asks
	case *axrom:
		b = m.plainOf(api.AxROM)
		b.Latch = m.latch
	}
	return b
}

// view is what the CPU sees of a board.
type view struct {
	banks [windows]int
	ram   int
}

func look(m board) view {
	v := view{ram: ramMode(m)}
	for w := range v.banks {
		v.banks[w] = m.bank(w)
	}
	return v
}

// ramMode is what a board lets of its work RAM, if it has any.
func ramMode(m board) int {
	if !m.hasWork() {
		return ramShut
	}
	return m.workMode()
}
