package isa

import "tandem/api"

// maxCycles is the cycles of the longest instruction.
const maxCycles = 8

// run is an instruction's accesses. It keeps them in an array, so that counting them makes no list.
type run struct {
	acc [maxCycles]api.Acc
	n   int
}

// add lays accesses behind those that are there.
func (s *run) add(more ...api.Acc) {
	s.n += copy(s.acc[s.n:], more)
}

// Cycles is how long an instruction takes.
func Cycles(code uint8, crossed, taken bool) int {
	s := runOf(rowOf(code), crossed, taken)
	return s.n
}

// Shape is what an instruction does on the bus, cycle by cycle.
func Shape(code uint8, crossed, taken bool) []api.Acc {
	s := runOf(rowOf(code), crossed, taken)
	list := make([]api.Acc, s.n)
	copy(list, s.acc[:])
	return list
}

// runOf is the accesses of a row's instruction.
func runOf(r row, crossed, taken bool) run {
	s := run{}
	s.add(api.AccFetch)
	switch kindOf(r) {
	case api.KindRead:
		s.reach(r.mode, crossed)
		s.add(api.AccRead)
	case api.KindFixed:
		s.reach(r.mode, true)
		s.add(api.AccRead)
	case api.KindWrite:
		s.reach(r.mode, true)
		s.add(api.AccWrite)
	case api.KindRmw:
		s.reach(r.mode, true)
		s.add(api.AccRead, api.AccBack, api.AccWrite)
	case api.KindBranch:
		s.branch(crossed, taken)
	default:
		s.rest(r.op, r.mode)
	}
	return s
}

// reach lays what leads to an operand in memory; wrong tells whether an index goes over a page's end, or might.
func (s *run) reach(mode api.Mode, wrong bool) {
	s.add(api.AccOperand)
	switch mode {
	case api.ModeZpx, api.ModeZpy:
		s.add(api.AccZero)
	case api.ModeAbs, api.ModeAbx, api.ModeAby:
		s.add(api.AccOperand)
	case api.ModeIzx:
		s.add(api.AccZero, api.AccLow, api.AccHigh)
	case api.ModeIzy:
		s.add(api.AccLow, api.AccHigh)
	}
	switch mode {
	case api.ModeAbx, api.ModeAby, api.ModeIzy:
		if wrong {
			s.add(api.AccWrong)
		}
	}
}

// branch lays a branch's accesses.
func (s *run) branch(crossed, taken bool) {
	s.add(api.AccOperand)
	if taken {
		s.add(api.AccNext)
	}
	if taken && crossed {
		s.add(api.AccWrong)
	}
}

// rest lays the accesses of the instructions that have no operand in memory and always take as long.
func (s *run) rest(op api.Op, mode api.Mode) {
	switch op {
	case api.OpJMP:
		s.add(api.AccOperand, api.AccOperand)
		if mode == api.ModeInd {
			s.add(api.AccLow, api.AccHigh)
		}
	case api.OpJSR:
		s.add(api.AccOperand, api.AccStack, api.AccPush, api.AccPush, api.AccOperand)
	case api.OpRTS:
		s.add(api.AccNext, api.AccStack, api.AccPull, api.AccPull, api.AccOperand)
	case api.OpRTI:
		s.add(api.AccNext, api.AccStack, api.AccPull, api.AccPull, api.AccPull)
	case api.OpBRK:
		s.add(api.AccOperand, api.AccPush, api.AccPush, api.AccPush, api.AccVecLow, api.AccVecHigh)
	case api.OpPHA, api.OpPHP:
		s.add(api.AccNext, api.AccPush)
	case api.OpPLA, api.OpPLP:
		s.add(api.AccNext, api.AccStack, api.AccPull)
	case api.OpJAM:
	default:
		s.plain(mode)
	}
}

// plain lays the second access of an instruction that works on registers and flags alone.
func (s *run) plain(mode api.Mode) {
	if mode == api.ModeImm {
		s.add(api.AccOperand)
	} else {
		s.add(api.AccNext)
	}
}
