package dbt

import (
	"sync"

	"tandem/api"
)

const (
	mostWarm   = 1 << 16 // addresses of one warming
	warmAtOnce = 1 << 10 // blocks that are made ahead of being put: enough for all workers, and not much to hold
)

// Warm translates the code at these places with so many workers and puts it into the cache, in their order: how many blocks were put.
func (m *Machine) Warm(pcs []uint16, workers int) (int, api.Errno) {
	switch {
	case !m.made():
		return 0, api.OK
	case len(pcs) > mostWarm:
		return 0, api.ErrLong
	case workers < 1 || workers > api.MaxWork:
		return 0, api.ErrArg
	}
	put := 0
	for len(pcs) > 0 {
		n := min(len(pcs), warmAtOnce)
		blocks, full := m.translateAll(pcs[:n], workers)
		for _, b := range blocks {
			m.keep(b)
		}
		put += full
		pcs = pcs[n:]
	}
	return put, api.OK
}

// pool is workers that make blocks side by side.
type pool struct {
	machine *Machine // nobody changes it while they work
	pcs     []uint16
	jobs    chan int    // numbers of pcs
	blocks  []api.Block // by the same numbers: each is written by the one worker that has taken it
	working sync.WaitGroup
	lock    sync.Mutex // around full
	full    int        // of the blocks those that have instructions
}

// translateAll makes a block for each of pcs, and tells how many of them have instructions.
func (m *Machine) translateAll(pcs []uint16, workers int) ([]api.Block, int) {
	p := &pool{machine: m, pcs: pcs, jobs: make(chan int), blocks: make([]api.Block, len(pcs))}
	p.working.Add(workers)
	for range workers {
		go p.work()
	}
	for job := range pcs {
		p.jobs <- job
	}
	close(p.jobs)
	p.working.Wait()
	return p.blocks, p.full
}

// work does jobs until there are none any more.
func (p *pool) work() {
	defer p.working.Done()
	for job := range p.jobs {
		p.blocks[job] = p.machine.translate(p.pcs[job])
		if p.blocks[job].Insts > 0 {
			p.count()
		}
	}
}

// count counts a block that has instructions.
func (p *pool) count() {
	p.lock.Lock()
	defer p.lock.Unlock()
	p.full++
}
