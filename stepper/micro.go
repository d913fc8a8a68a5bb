package stepper

import (
	"tandem/alu"
	"tandem/api"
	"tandem/isa"
)

// accKinds is how many kinds of accesses there are.
const accKinds = api.AccVecHigh + 1

// microSteps is the micro-step of each kind of access.
func (m *Machine) microSteps() [accKinds]step {
	return [accKinds]step{
		api.AccFetch:   m.fetch,
		api.AccOperand: m.operand,
		api.AccNext:    m.next,
		api.AccZero:    m.zero,
		api.AccLow:     m.low,
		api.AccHigh:    m.high,
		api.AccWrong:   m.wrong,
		api.AccRead:    m.read,
		api.AccBack:    m.back,
		api.AccWrite:   m.write,
		api.AccStack:   m.stack,
		api.AccPush:    m.push,
		api.AccPull:    m.pull,
		api.AccVecLow:  m.vecLow,
		api.AccVecHigh: m.vecHigh,
	}
}

// fetch lays the longest row that the instruction may have: what it turns out not to need is passed over.
func (m *Machine) fetch() (api.Access, bool) {
	a := m.readAt(m.cpu.Regs.PC)
	m.now.inst = isa.Decode(a.Val)
	m.now.row = m.rowOf(isa.Shape(a.Val, true, true)[1:]...)
	if m.now.inst.Kind != api.KindJam {
		m.cpu.Regs.PC++
	}
	return a, true
}

func (m *Machine) operand() (api.Access, bool) {
	a := m.readAt(m.cpu.Regs.PC)
	m.cpu.Regs.PC++
	m.now.val = a.Val
	m.gather(a.Val)
	m.now.over = m.branches() && !alu.Taken(m.now.inst.Op, m.cpu.Regs.P)
	return a, true
}

func (m *Machine) next() (api.Access, bool) {
	if m.now.over {
		return api.Access{}, false
	}
	a := m.readAt(m.cpu.Regs.PC)
	if m.branches() && !m.crosses() {
		m.cpu.Regs.PC = m.target()
		m.now.over = true
	}
	return a, true
}

func (m *Machine) zero() (api.Access, bool) {
	return m.readAt(m.now.word), true
}

func (m *Machine) low() (api.Access, bool) {
	m.now.from = m.pointer()
	a := m.readAt(m.now.from)
	m.now.word, m.now.bytes = 0, 0
	m.gather(a.Val)
	return a, true
}

// high does not leave the page in which the low byte lies.
func (m *Machine) high() (api.Access, bool) {
	a := m.readAt(inPage(m.now.from, m.now.from+1))
	m.gather(a.Val)
	return a, true
}

func (m *Machine) wrong() (api.Access, bool) {
	if m.now.over || m.now.inst.Kind == api.KindRead && !m.crosses() {
		return api.Access{}, false
	}
	a := m.readAt(inPage(m.base(), m.target()))
	if m.branches() {
		m.cpu.Regs.PC = m.target()
	}
	return a, true
}

func (m *Machine) read() (api.Access, bool) {
	a := m.readAt(m.target())
	m.now.val = a.Val
	return a, true
}

func (m *Machine) back() (api.Access, bool) {
	return m.writeAt(m.target(), m.now.val), true
}

func (m *Machine) write() (api.Access, bool) {
	m.operate()
	return m.writeAt(m.target(), m.now.val), true
}

func (m *Machine) stack() (api.Access, bool) {
	return m.readAt(m.top()), true
}

// push reads in a reset entry, which moves S and writes nothing.
func (m *Machine) push() (api.Access, bool) {
	var a api.Access
	if m.now.event.Kind == api.EventReset {
		a = m.readAt(m.top())
	} else {
		a = m.writeAt(m.top(), m.outgoing())
	}
	m.cpu.Regs.S--
	m.now.moved++
	return a, true
}

func (m *Machine) pull() (api.Access, bool) {
	m.cpu.Regs.S++
	a := m.readAt(m.top())
	m.incoming(a.Val)
	m.now.moved++
	return a, true
}

func (m *Machine) vecLow() (api.Access, bool) {
	e := &m.now.event
	e.Vector = m.vector()
	if e.Kind != api.EventReset {
		e.PC, e.P = m.cpu.Regs.PC, m.flags()
	}
	a := m.readAt(e.Vector)
	m.cpu.Regs.P |= api.FlagI
	m.now.word, m.now.bytes = 0, 0
	m.gather(a.Val)
	return a, true
}

func (m *Machine) vecHigh() (api.Access, bool) {
	a := m.readAt(m.now.event.Vector + 1)
	m.gather(a.Val)
	return a, true
}
