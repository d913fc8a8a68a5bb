package stepper

import "tandem/api"

// readAt is a cycle with a read: its access.
func (m *Machine) readAt(addr uint16) api.Access {
	a := api.Access{Cycle: m.bus.Cycle(), Addr: addr}
	a.Val = m.bus.Read(addr)
	return a
}

// writeAt is a cycle with a write: its access.
func (m *Machine) writeAt(addr uint16, v uint8) api.Access {
	a := api.Access{Cycle: m.bus.Cycle(), Addr: addr, Val: v, Write: true}
	m.bus.Write(addr, v)
	return a
}

// gather lays one more byte of the word, of which the low one comes first.
func (m *Machine) gather(v uint8) {
	m.now.word |= uint16(v) << (8 * m.now.bytes)
	m.now.bytes++
}

// branches tells whether the instruction is a branch.
func (m *Machine) branches() bool {
	return m.now.inst.Kind == api.KindBranch
}

// base is what an index or a branch's distance is added to.
func (m *Machine) base() uint16 {
	if m.branches() {
		return m.cpu.Regs.PC
	}
	return m.now.word
}

// target is the operand's address, or the one that a branch leads to.
func (m *Machine) target() uint16 {
	r, w := &m.cpu.Regs, m.now.word
	switch m.now.inst.Mode {
	case api.ModeZpx:
		return zeroPage(w, r.X)
	case api.ModeZpy:
		return zeroPage(w, r.Y)
	case api.ModeAbx:
		return w + uint16(r.X)
	case api.ModeAby, api.ModeIzy:
		return w + uint16(r.Y)
	case api.ModeRel:
		return r.PC + uint16(int8(w))
	}
	return w
}

// crosses tells whether the target lies in another page than the base.
func (m *Machine) crosses() bool {
	base := m.base()
	return inPage(base, m.target()) != m.target()
}

// pointer is where a pointer's low byte lies.
func (m *Machine) pointer() uint16 {
	if m.now.inst.Mode == api.ModeIzx {
		return zeroPage(m.now.word, m.cpu.Regs.X)
	}
	return m.now.word
}

// zeroPage is an address of the zero page with an index added to it, which never leaves that page.
func zeroPage(addr uint16, index uint8) uint16 {
	return inPage(0, addr+uint16(index))
}

// inPage is an address with the high byte of page and the low byte of addr.
func inPage(page, addr uint16) uint16 {
	return page&0xff00 | addr&0x00ff
}
