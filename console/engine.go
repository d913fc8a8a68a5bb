package console

import (
	"tandem/api"
	"tandem/dbt"
	"tandem/interp"
	"tandem/stepper"
)

// warmWorkers is how many warm a cache.
const warmWorkers = 2

// engine is a machine at a boundary, run in one of the three ways.
type engine interface {
	Play(t api.Turn) (int, api.Errno)
	Press(one, two uint8)
	Reset() api.Errno
	Log() []api.Access
	Events() []api.Event
	state(s *api.State)                                 // s becomes the machine's
	from(c *api.Cart, s *api.State) (engine, api.Errno) // an engine of the same kind that goes on from s
	flush() int                                         // how many blocks the cache held
	warm(pcs []uint16) int                              // how many blocks were put into it
	stats() (api.Stats, int, bool)                      // the counters and how many blocks it holds; false if there is none
}

// uncached is what engines without a cache answer about it.
type uncached struct{}

func (uncached) flush() int                    { return 0 }
func (uncached) warm([]uint16) int             { return 0 }
func (uncached) stats() (api.Stats, int, bool) { return api.Stats{}, 0, false }

// byCycles is the stepper.
type byCycles struct {
	*stepper.Machine
	uncached
}

func cyclesFrom(c *api.Cart, s *api.State) (engine, api.Errno) {
	m, e := stepper.From(*c, *s)
	return byCycles{Machine: m}, e
}

func (m byCycles) state(s *api.State) { *s, _ = m.State() }

func (m byCycles) from(c *api.Cart, s *api.State) (engine, api.Errno) { return cyclesFrom(c, s) }

// byInstructions is the interpreter.
type byInstructions struct {
	*interp.Machine
	uncached
}

func instructionsFrom(c *api.Cart, s *api.State) (engine, api.Errno) {
	m, e := interp.From(*c, *s)
	return byInstructions{Machine: m}, e
}

func (m byInstructions) state(s *api.State) { *s = m.State() }

func (m byInstructions) from(c *api.Cart, s *api.State) (engine, api.Errno) {
	return instructionsFrom(c, s)
}

// byBlocks is the translator.
type byBlocks struct {
	*dbt.Machine
	size, limit int // of its cache, of its blocks
}

func blocksFrom(c *api.Cart, s *api.State, size, limit int) (engine, api.Errno) {
	m, e := dbt.From(*c, *s, size, limit)
	return byBlocks{m, size, limit}, e
}

// Play is the machine's own Play, pass by pass: its list of entries, which nobody asks for here, is emptied on the way, as a long turn would fill the memory with it.
func (m byBlocks) Play(t api.Turn) (int, api.Errno) {
	s := m.State()
	budget := int(t.Budget)
	if s.Mem.Cycle+budget > api.MaxCycle {
		return 0, api.ErrArg
	}
	t.Budget = 0
	m.Machine.Play(t) // the button, the flush and the pads
	done := 0
	for done < budget {
		done += m.Pass(budget - done)
		m.Entries()
	}
	return done, api.OK
}

func (m byBlocks) state(s *api.State) { *s = m.State() }

func (m byBlocks) from(c *api.Cart, s *api.State) (engine, api.Errno) {
	return blocksFrom(c, s, m.size, m.limit)
}

func (m byBlocks) flush() int {
	held := len(m.Keys())
	m.Flush()
	return held
}

func (m byBlocks) warm(pcs []uint16) int {
	put, _ := m.Warm(pcs, warmWorkers)
	return put
}

func (m byBlocks) stats() (api.Stats, int, bool) { return m.Stats(), len(m.Keys()), true }
