package bus

import "tandem/api"

// Steps of the copying: from dmaCopy on a read and a write are by turns, the last one a write.
const (
	dmaHalt = 0
	dmaCopy = 2
	dmaLast = 513
)

const (
	dmaTo    = 0x2004
	pageSize = 256
)

// Dma tells whether the copying of a page waits or goes on.
func (b *Bus) Dma() bool {
	return b.made() && b.mem.Dma.On
}

// DmaStep is one cycle of the copying: its access; nothing if there is none to do.
func (b *Bus) DmaStep(pc uint16) api.Access {
	if !b.Dma() || !b.goesOn() {
		return api.Access{}
	}
	a := dmaAccess(b.mem.Dma, pc)
	a.Cycle = b.mem.Cycle
	if a.Write {
		b.Write(a.Addr, a.Val)
	} else {
		a.Val = b.Read(a.Addr)
	}
	b.mem.Dma = dmaNext(b.mem.Dma, a.Val, b.mem.Cycle)
	return a
}

// dmaAccess is the access that is next; a read has no value yet.
func dmaAccess(d api.Dma, pc uint16) api.Access {
	switch {
	case d.Step < dmaCopy:
		return api.Access{Addr: pc}
	case dmaWrites(d):
		return api.Access{Addr: dmaTo, Val: d.Val, Write: true}
	}
	return api.Access{Addr: uint16(d.Page)*pageSize + uint16(d.Step-dmaCopy)/2}
}

// dmaWrites tells whether a write is next.
func dmaWrites(d api.Dma) bool {
	return d.Step > dmaCopy && d.Step%2 != 0
}

// dmaNext is the copying behind the access that was next, whose value was val; cycle is the number of the cycle that follows.
func dmaNext(d api.Dma, val uint8, cycle int) api.Dma {
	held := uint8(0)
	if d.Step >= dmaCopy && !dmaWrites(d) {
		held = val
	}
	switch {
	case d.Step == dmaLast:
		return api.Dma{}
	case d.Step == dmaHalt && cycle%2 == 0:
		d.Step = dmaCopy // reads fall on even cycles without waiting
	default:
		d.Step++
	}
	d.Val = held
	return d
}
