package interp

import (
	"tandem/alu"
	"tandem/api"
)

// stackPage is where the stack lies.
const stackPage = 0x0100

// branch is what of a branch lies behind its opcode.
func (m *Machine) branch(op api.Op) {
	r := &m.cpu.Regs
	m.poll()
	distance := int8(m.code())
	if !alu.Taken(op, r.P) {
		return
	}
	to := r.PC + uint16(distance)
	m.bus.Read(r.PC)
	if wrong := inPage(r.PC, to); wrong != to {
		if m.cpu.Take == api.TakeNone { // what the first poll has found stays
			m.poll()
		}
		m.bus.Read(wrong)
	}
	r.PC = to
}

// jump is what of a JMP lies behind its opcode.
func (m *Machine) jump(mode api.Mode) {
	r := &m.cpu.Regs
	low, high := r.PC, r.PC+1
	switch mode {
	case api.ModeInd:
		low = m.word(low, high)
		high = inPage(low, low+1)
		fallthrough // the target is read from there as it is from behind the opcode
	case api.ModeAbs:
		v := uint16(m.bus.Read(low))
		m.poll()
		r.PC = v | uint16(m.bus.Read(high))<<8
	}
}

// call is what of a JSR lies behind its opcode. Its last byte is read behind the pushes, which may have changed it.
func (m *Machine) call() {
	r := &m.cpu.Regs
	low := uint16(m.code())
	m.bus.Read(m.top())
	m.push(uint8(r.PC >> 8))
	m.push(uint8(r.PC))
	m.poll()
	r.PC = low | m.page()
}

// goBack is what of an RTS or an RTI lies behind its opcode. RTI is polled with the I that it has pulled.
func (m *Machine) goBack(i api.Inst) {
	r := &m.cpu.Regs
	m.toStack()
	if i.Op == api.OpRTI {
		m.operate(i, m.pull())
		low := uint16(m.pull())
		m.poll()
		r.PC = low | uint16(m.pull())<<8
		return
	}
	low := uint16(m.pull())
	r.PC = low | uint16(m.pull())<<8
	m.poll()
	m.code()
}

// toStack is the two cycles that lie between an opcode and the first byte that it pulls.
func (m *Machine) toStack() {
	m.bus.Read(m.cpu.Regs.PC)
	m.bus.Read(m.top())
}

// top is where the stack pointer points to.
func (m *Machine) top() uint16 {
	return stackPage + uint16(m.cpu.Regs.S)
}

// push puts a byte on the stack.
func (m *Machine) push(v uint8) {
	m.bus.Write(m.top(), v)
	m.cpu.Regs.S--
}

// pull takes a byte from the stack.
func (m *Machine) pull() uint8 {
	m.cpu.Regs.S++
	return m.bus.Read(m.top())
}
