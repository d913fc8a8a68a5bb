package stepper

import (
	"tandem/api"
	"tandem/isa"
)

// opBrk is BRK's opcode: an entry, which fetches none, goes the same way.
const opBrk = 0x00

// step is a micro-step: the access of one cycle. One that turns out to have no cycle of its own makes none and answers false.
type step func() (api.Access, bool)

// work is an instruction or an entry, with what it keeps from cycle to cycle.
type work struct {
	row   []step    // what is still to come
	over  bool      // nothing that is still in the row has a cycle of its own
	inst  api.Inst  // BRK's for an entry
	event api.Event // its first cycle, and what is told of an entry or a BRK; every instruction has a BRK's kind
	word  uint16    // an address, as far as its bytes have come
	bytes int       // how many have come
	from  uint16    // where a pointer lies
	val   uint8     // the operand
	moved int       // bytes that have gone to the stack or come from it
}

// cycle is one cycle: its access; false: there was none.
func (m *Machine) cycle() (api.Access, bool) {
begin:
	if len(m.now.row) == 0 {
		switch {
		case m.cpu.Jam:
			m.bus.Idle(1)
			return api.Access{}, false
		case m.bus.Dma():
			return m.bus.DmaStep(m.cpu.Regs.PC), true
		}
		m.now = m.first()
	}
	next := m.now.row[0]
	m.now.row = m.now.row[1:]
	a, spent := next()
	if !spent {
		goto begin
	}
	if m.boundary() {
		m.finish()
	} else {
		m.look()
	}
	return a, true
}

// first is what Take says comes next, ahead of its first cycle. What was taken stands no more.
func (m *Machine) first() work {
	// The numbers of Take are those of the events that they lead to.
	w := work{event: api.Event{Cycle: m.bus.Cycle(), Kind: m.cpu.Take}}
	if m.cpu.Take == api.TakeNone {
		w.row = m.rowOf(api.AccFetch)
		return w
	}
	m.cpu.Take = api.TakeNone
	w.inst = isa.Decode(opBrk)
	w.row = m.rowOf(api.AccNext, api.AccNext, api.AccPush, api.AccPush, api.AccPush, api.AccVecLow, api.AccVecHigh)
	return w
}

// rowOf is the micro-steps that make some accesses.
func (m *Machine) rowOf(list ...api.Acc) []step {
	row := make([]step, len(list))
	for i, acc := range list {
		row[i] = m.steps[acc]
	}
	return row
}

// finish is what comes of an instruction or an entry at the end of its last cycle.
func (m *Machine) finish() {
	switch m.now.inst.Kind {
	case api.KindPlain, api.KindRead, api.KindPull:
		m.operate()
	case api.KindJump, api.KindCall:
		m.cpu.Regs.PC = m.now.word
	case api.KindBreak:
		m.cpu.Regs.PC = m.now.word
		m.events = append(m.events, m.now.event)
	case api.KindJam:
		m.cpu.Jam = true
	}
}

// look polls at the end of a cycle behind which the instruction goes on. What counts is the poll of its last cycle but one: as each poll puts its answer in place of the one before, no cycle has to know that it is that one.
func (m *Machine) look() {
	switch m.now.inst.Kind {
	case api.KindBreak:
	case api.KindBranch:
		if done := m.Step(); done == 1 || done == 3 && m.cpu.Take == api.TakeNone {
			m.cpu.Take = m.poll()
		}
	default:
		m.cpu.Take = m.poll()
	}
}

// poll is what the lines ask for now.
func (m *Machine) poll() uint8 {
	nmi, irq := m.bus.Poll()
	switch {
	case nmi:
		return api.TakeNmi
	case irq && m.cpu.Regs.P&api.FlagI == 0:
		return api.TakeIrq
	}
	return api.TakeNone
}
