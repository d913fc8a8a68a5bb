package console

import (
	"strconv"

	"tandem/api"
	"tandem/stepper"
)

func (p *player) power([]int) api.Errno {
	m, e := stepper.New(p.cart)
	if e != api.OK {
		return e
	}
	s, _ := m.State()
	if p.cart.Battery {
		s.Mem.Work = p.state().Mem.Work
	}
	if e := p.replace(p.engine.from(&p.cart, &s)); e != api.OK {
		return e
	}
	p.tell("power")
	return api.OK
}

func (p *player) toStep([]int) api.Errno {
	if e := p.replace(cyclesFrom(&p.cart, p.state())); e != api.OK {
		return e
	}
	p.tell(engineWord, "step")
	return api.OK
}

func (p *player) toInterp([]int) api.Errno {
	if e := p.replace(instructionsFrom(&p.cart, p.state())); e != api.OK {
		return e
	}
	p.tell(engineWord, "interp")
	return api.OK
}

func (p *player) toDbt(args []int) api.Errno {
	size, limit := args[0], args[1]
	if e := p.replace(blocksFrom(&p.cart, p.state(), size, limit)); e != api.OK {
		return e
	}
	p.tell(engineWord, "dbt", strconv.Itoa(size), strconv.Itoa(limit))
	return api.OK
}

func (p *player) flush([]int) api.Errno {
	p.tell("flushed", strconv.Itoa(p.engine.flush()))
	return api.OK
}

func (p *player) warm(args []int) api.Errno {
	pcs := make([]uint16, len(args))
	for i, pc := range args {
		pcs[i] = uint16(pc)
	}
	p.tell("warmed", strconv.Itoa(p.engine.warm(pcs)))
	return api.OK
}
