package xlate

import "tandem/api"

// reach finds the operand's address. It answers false if an access that the instruction makes is not plain.
func (d *doing) reach(o api.Micro) bool {
	index := uint16(d.index(o.Mode))
	inZero := inPage(0, o.Arg+index)
	d.at = o.Arg
	switch o.Mode {
	case api.ModeZpx, api.ModeZpy:
		d.at = inZero
	case api.ModeIzx:
		d.at = d.word(inZero)
	case api.ModeIzy:
		return d.reachIndexed(d.word(o.Arg), index)
	case api.ModeAbx, api.ModeAby:
		return d.reachIndexed(o.Arg, index)
	}
	return d.mayTouch()
}

// reachIndexed adds an index that may lead into another page. Where it does, and in all but the instructions that read alone, the address in the wrong page is read first.
func (d *doing) reachIndexed(base, index uint16) bool {
	d.at = base + index
	wrong := inPage(base, d.at)
	crossed := wrong != d.at
	readsAlone := d.has(api.MicroAlu) && !d.has(api.MicroStore)
	if (crossed || !readsAlone) && !d.plain(wrong, false) || !d.mayTouch() {
		return false
	}
	if crossed && readsAlone {
		d.extra++
	}
	return true
}

// mayTouch tells whether the instruction's own accesses of its operand are plain.
func (d *doing) mayTouch() bool {
	return (!d.has(api.MicroLoad) || d.plain(d.at, false)) && (!d.has(api.MicroStore) || d.plain(d.at, true))
}

// has tells whether the instruction has such a micro-op.
func (d *doing) has(kind api.MicroKind) bool {
	return !while(d.ops, func(o api.Micro) bool { return o.Kind != kind })
}

// plain tells whether an access is of memory alone.
func (d *doing) plain(addr uint16, write bool) bool {
	return addr < ramEnd || d.mem.Plain(addr, write)
}

// index is the register that a mode adds.
func (d *doing) index(m api.Mode) uint8 {
	switch m {
	case api.ModeZpx, api.ModeIzx, api.ModeAbx:
		return d.regs.X
	case api.ModeZpy, api.ModeIzy, api.ModeAby:
		return d.regs.Y
	}
	return 0
}

// word is the address that lies somewhere, of which no byte lies in another page than the low one.
func (d *doing) word(at uint16) uint16 {
	low := d.mem.Load(at)
	return uint16(low) | uint16(d.mem.Load(inPage(at, at+1)))<<8
}

// inPage is an address with the high byte of page and the low byte of addr.
func inPage(page, addr uint16) uint16 {
	return page&0xff00 | addr&0x00ff
}
