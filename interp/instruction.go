package interp

import (
	"tandem/alu"
	"tandem/api"
	"tandem/isa"
)

// instruction is the instruction at PC; first is the number of its first cycle.
func (m *Machine) instruction(first int) {
	i := isa.Decode(m.bus.Read(m.cpu.Regs.PC))
	if i.Kind == api.KindJam {
		m.cpu.Jam = true
		return
	}
	m.cpu.Regs.PC++
	switch i.Kind {
	case api.KindPlain:
		m.plain(i)
	case api.KindBranch:
		m.branch(i.Op)
	case api.KindJump:
		m.jump(i.Mode)
	case api.KindCall:
		m.call()
	case api.KindReturn:
		m.goBack(i)
	case api.KindPush:
		m.bus.Read(m.cpu.Regs.PC)
		m.poll()
		m.push(m.operate(i, 0))
	case api.KindPull:
		m.toStack()
		m.poll()
		m.operate(i, m.pull())
	case api.KindBreak:
		m.brk(first)
	default:
		m.memory(i)
	}
}

// plain is an instruction that works on registers, flags and an operand in the code.
func (m *Machine) plain(i api.Inst) {
	m.poll()
	v := m.bus.Read(m.cpu.Regs.PC)
	if i.Mode == api.ModeImm {
		m.cpu.Regs.PC++
	}
	m.operate(i, v)
}

// memory is an instruction with an operand in memory.
func (m *Machine) memory(i api.Inst) {
	at := m.reach(i)
	v := uint8(0)
	switch i.Kind {
	case api.KindRmw:
		v = m.bus.Read(at)
		m.bus.Write(at, v)
		fallthrough // what is left to do is to write, as the others do that have read nothing
	case api.KindWrite:
		m.poll()
		m.bus.Write(at, m.operate(i, v))
	default:
		m.poll()
		m.operate(i, m.bus.Read(at))
	}
}

// operate does the instruction's operation: the operand behind it.
func (m *Machine) operate(i api.Inst, operand uint8) uint8 {
	do := alu.Do
	if i.Mode == api.ModeAcc {
		do = alu.Acc
	}
	out := do(i.Op, m.operands(operand))
	r := &m.cpu.Regs
	r.A, r.X, r.Y, r.S, r.P = out.A, out.X, out.Y, out.S, out.P
	return out.M
}

// operands is what an operation works on.
func (m *Machine) operands(operand uint8) api.Alu {
	r := &m.cpu.Regs
	return api.Alu{A: r.A, X: r.X, Y: r.Y, S: r.S, P: r.P, M: operand}
}

// poll decides what comes behind the instruction. As it changes nothing of the bus, the end of a cycle and the beginning of the next one are alike to it: it stands ahead of the last access.
func (m *Machine) poll() {
	nmi, irq := m.bus.Poll()
	switch {
	case nmi:
		m.cpu.Take = api.TakeNmi
	case irq && m.cpu.Regs.P&api.FlagI == 0:
		m.cpu.Take = api.TakeIrq
	default:
		m.cpu.Take = api.TakeNone
	}
}
