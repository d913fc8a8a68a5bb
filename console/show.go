package console

import (
	"strconv"

	"tandem/api"
	"tandem/isa"
)

// longest is how many bytes an instruction has at most.
const longest = 3

func (p *player) regs([]int) api.Errno {
	p.tell(regsOf(p.state())...)
	return api.OK
}

func (p *player) peek(args []int) api.Errno {
	addr, n := uint16(args[0]), args[1]
	words := []string{placeOf(addr)}
	for _, v := range look(&p.cart, p.state(), addr, n) {
		words = append(words, hex2(v))
	}
	p.tell(words...)
	return api.OK
}

func (p *player) list(args []int) api.Errno {
	pc, n := uint16(args[0]), args[1]
	code := look(&p.cart, p.state(), pc, n*longest)
	for range n {
		p.tell(lineOf(code, pc)...)
		length := isa.Decode(code[0]).Len
		code = code[length:]
		pc += uint16(length)
	}
	return api.OK
}

func (p *player) trace(args []int) api.Errno {
	for range args[0] {
		s := p.state()
		pc := s.Cpu.Regs.PC
		words := append(lineOf(look(&p.cart, s, pc, longest), pc), "|")
		words = append(words, regsOf(s)[1:]...)
		if _, e := p.turn(s, 1); e != api.OK {
			return e
		}
		p.tell(words...)
	}
	return api.OK
}

func (p *player) log([]int) api.Errno {
	p.collect()
	p.tell("log", strconv.Itoa(len(p.untold.accesses)))
	for _, a := range p.untold.accesses {
		p.tell(accessWord(a.Write), hex4(a.Addr), hex2(a.Val), cycleOf(a.Cycle))
	}
	p.untold.accesses = nil
	return api.OK
}

func (p *player) events([]int) api.Errno {
	p.collect()
	p.tell("events", strconv.Itoa(len(p.untold.events)))
	for _, e := range p.untold.events {
		p.tell(eventWord(e.Kind), hex4(e.PC), hex2(e.P), hex4(e.Vector), cycleOf(e.Cycle))
	}
	p.untold.events = nil
	return api.OK
}

func (p *player) stats([]int) api.Errno {
	s, cached, ok := p.engine.stats()
	if !ok {
		p.tell("stats", "none")
		return api.OK
	}
	p.tell("stats", named("steps", s.Steps), named("blocks", s.Blocks), named("hits", s.Hits), named("misses", s.Misses),
		named("evicted", s.Evicted), named("dropped", s.Dropped), named("guards", s.Guards), named("stores", s.Stores),
		named("flushes", s.Flushes), named("cached", cached))
	return api.OK
}
