package bus

import (
	"tandem/api"
	"tandem/mapper"
	"tandem/raster"
	"tandem/timer"
)

// Read is a cycle with a read.
func (b *Bus) Read(addr uint16) uint8 {
	if !b.goesOn() {
		return 0
	}
	v := regionOf(addr).read(b, addr)
	b.finish(api.Access{Cycle: b.mem.Cycle, Addr: addr, Val: v})
	return v
}

// Write is a cycle with a write.
func (b *Bus) Write(addr uint16, v uint8) {
	if !b.goesOn() {
		return
	}
	regionOf(addr).write(b, addr, v)
	b.finish(api.Access{Cycle: b.mem.Cycle, Addr: addr, Val: v, Write: true})
}

// Peek is what a read would answer, and nothing happens.
func (b *Bus) Peek(addr uint16) uint8 {
	if !b.made() {
		return 0
	}
	at := b
	if leavesTraces(addr) {
		// What a read would change is not to change now, so that it is done to a copy.
		at = &Bus{mem: b.mem, prg: b.prg, chr: b.chr}
	}
	return regionOf(addr).read(at, addr)
}

// Idle is n cycles without an access.
func (b *Bus) Idle(n int) {
	b.idle(n)
}

// Settle is n cycles without an access to a device; the last value on the bus is open.
func (b *Bus) Settle(n int, open uint8) {
	if b.idle(n) {
		b.mem.Open = open
	}
}

// finish is what of a cycle lies behind its access.
func (b *Bus) finish(a api.Access) {
	if device(a.Addr, a.Write) {
		b.log = append(b.log, a)
	}
	m := &b.mem
	m.Open = a.Val
	beam, clocks := raster.Tick(m.Raster)
	m.Raster = beam
	if clocks > 0 { // in few cycles, and asking the board costs more than the rest
		m.Board = mapper.Clock(m.Board, clocks)
	}
	m.Clock = timer.Tick(m.Clock)
	m.Cycle++
	line := raster.Line(m.Raster)
	m.Nmi = m.Nmi || line && !m.Line
	m.Line = line
}

// idle is n cycles without an access, if there are so many left; it tells whether they went by.
func (b *Bus) idle(n int) bool {
	if !b.made() || n < 1 || n > api.EndCycle-b.mem.Cycle {
		return false
	}
	m := &b.mem
	m.Nmi = m.Nmi || rises(m.Raster, n)
	beam, clocks := raster.Advance(m.Raster, n)
	m.Raster = beam
	m.Board = mapper.Clock(m.Board, clocks)
	m.Clock = timer.Advance(m.Clock, n)
	m.Cycle += n
	m.Line = raster.Line(m.Raster)
	return true
}
