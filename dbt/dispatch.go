package dbt

import (
	"slices"

	"tandem/api"
	"tandem/bus"
	"tandem/xlate"
)

// openPort is an address at which nothing answers: what a read there gives is the last value on the bus.
const openPort = 0x4000

// mustStep tells whether what comes next is none of a block's: it is no instruction, or one whose poll would find something, or one that lies where nothing is translated.
func (m *Machine) mustStep() bool {
	cpu := m.steps.Cpu()
	if cpu.Jam || m.bus.Dma() || cpu.Take != api.TakeNone {
		return true
	}
	latch, level := m.bus.Poll()
	return latch || level && cpu.Regs.P&api.FlagI == 0 || m.bus.Tag(cpu.Regs.PC) == api.TagNone
}

// step leaves what comes next to the interpreter.
func (m *Machine) step() {
	m.steps.Step()
	m.stats.Steps++
	m.dropStale()
}

// enter does the block at PC, if that ends in time. It tells whether an instruction was done.
func (m *Machine) enter(left int) bool {
	b, hit := m.blockAt(m.steps.Cpu().Regs.PC)
	if b.Insts == 0 || b.Most > min(left, m.bus.Horizon()) {
		return false
	}
	first := m.bus.Cycle()
	out := m.run(b)
	m.count(out.Left)
	m.entries = append(m.entries, api.Entry{
		Cycle: first, PC: b.PC, Tag: b.Tag, Bytes: b.Bytes, Hit: hit, Insts: out.Insts, Left: out.Left,
	})
	return out.Insts > 0
}

// blockAt is the block at an address, out of the cache or put there now, and whether it was there. One without instructions is put nowhere.
func (m *Machine) blockAt(pc uint16) (api.Block, bool) {
	b, hit := m.blocks.Get(api.Key{PC: pc, Tag: m.bus.Tag(pc)})
	if hit {
		m.stats.Hits++
		return b, true
	}
	m.stats.Misses++
	b = m.translate(pc)
	m.keep(b)
	return b, false
}

// run does a block, and lets the devices catch up.
func (m *Machine) run(b api.Block) api.Outcome {
	cpu := m.steps.Cpu()
	out := xlate.Run(b, cpu.Regs, m.bus.Peek(openPort), memory{m.bus, m, keyOf(b)})
	m.bus.Settle(out.Cycles, out.Open)
	cpu.Regs = out.Regs
	m.steps.SetCpu(cpu)
	return out
}

// count counts an entry by how the block was left.
func (m *Machine) count(left uint8) {
	m.stats.Blocks++
	switch left {
	case api.LeftGuard:
		m.stats.Guards++
	case api.LeftStore:
		m.stats.Stores++
	}
}

// keep puts a block into the cache, if it has instructions.
func (m *Machine) keep(b api.Block) {
	if b.Insts == 0 {
		return
	}
	if _, evicted := m.blocks.Put(b, m.bus.Place(b.PC)); evicted {
		m.stats.Evicted++
	}
}

// dropStale tells the cache of every place that was stored to since it was last told: the keys of the blocks that go.
func (m *Machine) dropStale() []api.Key {
	var gone []api.Key
	for _, place := range m.bus.Stores() {
		gone = append(gone, m.blocks.Store(place)...)
	}
	m.stats.Dropped += len(gone)
	return gone
}

// memory is the bus as a block works on it: a store may throw blocks away, the running one among them.
type memory struct {
	*bus.Bus
	machine *Machine
	running api.Key
}

// Store puts a byte in. It tells whether the running block is stale then.
func (m memory) Store(addr uint16, v uint8) bool {
	m.Bus.Store(addr, v)
	return slices.Contains(m.machine.dropStale(), m.running)
}

// keyOf is a block's key.
func keyOf(b api.Block) api.Key {
	return api.Key{PC: b.PC, Tag: b.Tag}
}
