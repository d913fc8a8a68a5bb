package interp

import "tandem/api"

// reach makes the accesses that lead to an operand in memory: its address.
func (m *Machine) reach(i api.Inst) uint16 {
	at, index := uint16(m.code()), uint16(m.index(i.Mode))
	sum := inPage(0, at+index)
	switch i.Mode {
	case api.ModeZpx, api.ModeZpy:
		m.bus.Read(at)
		at = sum
		fallthrough // the index has cost a cycle, and that is all
	case api.ModeZp:
		return at
	case api.ModeIzx:
		m.bus.Read(at)
		return m.pointer(sum)
	case api.ModeIzy:
		at = m.pointer(at)
		goto indexed
	case api.ModeAbx, api.ModeAby:
		at |= m.page()
		goto indexed
	}
	return at | m.page()
indexed:
	sum = at + index
	if wrong := inPage(at, sum); wrong != sum || i.Kind != api.KindRead {
		m.bus.Read(wrong)
	}
	return sum
}

// index is the register that a mode adds.
func (m *Machine) index(mode api.Mode) uint8 {
	switch mode {
	case api.ModeZpx, api.ModeIzx, api.ModeAbx:
		return m.cpu.Regs.X
	case api.ModeZpy, api.ModeIzy, api.ModeAby:
		return m.cpu.Regs.Y
	}
	return 0
}

// code reads the next byte of the code.
func (m *Machine) code() uint8 {
	v := m.bus.Read(m.cpu.Regs.PC)
	m.cpu.Regs.PC++
	return v
}

// page reads the next byte of the code as the high byte of an address.
func (m *Machine) page() uint16 {
	return uint16(m.code()) << 8
}

// pointer reads the address that lies somewhere, of which no byte lies in another page than the low one.
func (m *Machine) pointer(at uint16) uint16 {
	return m.word(at, inPage(at, at+1))
}

// word reads the two bytes of an address, each where it lies.
func (m *Machine) word(low, high uint16) uint16 {
	v := uint16(m.bus.Read(low))
	return v | uint16(m.bus.Read(high))<<8
}

// inPage is an address with the high byte of page and the low byte of addr.
func inPage(page, addr uint16) uint16 {
	return page&0xff00 | addr&0x00ff
}
