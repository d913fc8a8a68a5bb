package stepper

import (
	"tandem/alu"
	"tandem/api"
)

// stackPage is where the stack lies.
const stackPage = 0x0100

// The vectors.
const (
	vectorNmi   = 0xfffa
	vectorReset = 0xfffc
	vectorIrq   = 0xfffe
)

// top is where the stack pointer points to.
func (m *Machine) top() uint16 {
	return stackPage + uint16(m.cpu.Regs.S)
}

// outgoing is what goes to the stack next.
func (m *Machine) outgoing() uint8 {
	switch {
	case m.now.inst.Kind == api.KindPush:
		m.operate()
		return m.now.val
	case m.now.moved == 0:
		return uint8(m.cpu.Regs.PC >> 8)
	case m.now.moved == 1:
		return uint8(m.cpu.Regs.PC)
	}
	return m.flags()
}

// incoming takes what comes from the stack.
func (m *Machine) incoming(v uint8) {
	m.now.val = v
	switch {
	case m.now.inst.Kind == api.KindPull:
	case m.now.inst.Op == api.OpRTI && m.now.moved == 0:
		m.operate()
	default:
		m.gather(v)
		m.cpu.Regs.PC = m.now.word
	}
}

// flags is P as it is pushed by a BRK or an entry.
func (m *Machine) flags() uint8 {
	if m.now.event.Kind == api.EventBrk {
		return alu.Do(api.OpBRK, m.registers()).M
	}
	return m.cpu.Regs.P
}

// vector chooses where a BRK or an entry leads: an NMI that waits is taken by whichever of them comes first.
func (m *Machine) vector() uint16 {
	if m.now.event.Kind == api.EventReset {
		return vectorReset
	}
	if nmi, _ := m.bus.Poll(); nmi {
		m.bus.Ack()
		return vectorNmi
	}
	return vectorIrq
}

// operate does the instruction's operation.
func (m *Machine) operate() {
	do := alu.Do
	if m.now.inst.Mode == api.ModeAcc {
		do = alu.Acc
	}
	out := do(m.now.inst.Op, m.registers())
	r := &m.cpu.Regs
	r.A, r.X, r.Y, r.S, r.P, m.now.val = out.A, out.X, out.Y, out.S, out.P, out.M
}

// registers is what an operation works on.
func (m *Machine) registers() api.Alu {
	r := &m.cpu.Regs
	return api.Alu{A: r.A, X: r.X, Y: r.Y, S: r.S, P: r.P, M: m.now.val}
}
