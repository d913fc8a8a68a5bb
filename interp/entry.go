package interp

import (
	"tandem/alu"
	"tandem/api"
)

// The vectors.
const (
	vectorNmi   = 0xfffa
	vectorReset = 0xfffc
	vectorIrq   = 0xfffe
)

// entry is the seven cycles to which Take leads; first is the number of the first one. What was taken stands no more.
func (m *Machine) entry(first int) {
	r := &m.cpu.Regs
	// The numbers of Take are those of the events that they lead to.
	e := api.Event{Cycle: first, Kind: m.cpu.Take}
	m.cpu.Take = api.TakeNone
	m.bus.Read(r.PC)
	m.bus.Read(r.PC)
	if e.Kind == api.EventReset {
		m.restart(e)
		return
	}
	e.PC, e.P = r.PC, r.P
	m.interrupt(e)
}

// brk is what of a BRK lies behind its opcode.
func (m *Machine) brk(first int) {
	m.code()
	e := api.Event{Cycle: first, Kind: api.EventBrk, PC: m.cpu.Regs.PC}
	e.P = alu.Do(api.OpBRK, m.operands(0)).M
	m.interrupt(e)
}

// interrupt is the last five cycles of a BRK, an IRQ or an NMI: what is told of it is what it pushes.
func (m *Machine) interrupt(e api.Event) {
	m.push(uint8(e.PC >> 8))
	m.push(uint8(e.PC))
	m.push(e.P)
	e.Vector = m.vector()
	m.follow(e)
}

// restart is the last five cycles of a reset, which moves S and writes nothing.
func (m *Machine) restart(e api.Event) {
	for range 3 {
		m.bus.Read(m.top())
		m.cpu.Regs.S--
	}
	e.Vector = vectorReset
	m.follow(e)
}

// vector chooses where a BRK, an IRQ or an NMI leads: an NMI that waits is taken by whichever of them comes first.
func (m *Machine) vector() uint16 {
	if nmi, _ := m.bus.Poll(); nmi {
		m.bus.Ack()
		return vectorNmi
	}
	return vectorIrq
}

// follow is the last two cycles, which go through the vector; then the event is one to be told.
func (m *Machine) follow(e api.Event) {
	r := &m.cpu.Regs
	r.P |= api.FlagI
	r.PC = m.word(e.Vector, e.Vector+1)
	m.events = append(m.events, e)
}
