package alu

import "tandem/api"

// Do is an operation: the registers and the operand behind it.
func Do(op api.Op, in api.Alu) api.Alu {
	switch op {
	case api.OpLDA, api.OpLDX, api.OpLDY, api.OpLAX, api.OpLAS, api.OpPLA:
		return load(op)(in)
	case api.OpTAX, api.OpTAY, api.OpTXA, api.OpTYA, api.OpTSX, api.OpTXS:
		return transfer(op)(in)
	case api.OpSTA, api.OpSTX, api.OpSTY, api.OpSAX, api.OpPHA:
		return store(op)(in)
	case api.OpINC, api.OpINX, api.OpINY, api.OpDEC, api.OpDEX, api.OpDEY:
		return count(op)(in)
	case api.OpAND, api.OpORA, api.OpEOR:
		return combine(op)(in)
	case api.OpADC, api.OpSBC, api.OpARR:
		return add(op)(in)
	case api.OpASL, api.OpLSR, api.OpROL, api.OpROR:
		return shift(op)(in)
	case api.OpSLO, api.OpRLA, api.OpSRE, api.OpRRA, api.OpDCP, api.OpISC:
		return doPair(op, in)
	case api.OpCMP, api.OpCPX, api.OpCPY, api.OpBIT, api.OpANC, api.OpALR, api.OpSBX:
		return doTest(op, in)
	case api.OpCLC, api.OpCLD, api.OpCLI, api.OpCLV:
		in.P &^= Sets(op)
	case api.OpSEC, api.OpSED, api.OpSEI:
		in.P |= Sets(op)
	case api.OpPHP:
		in.M = pushed(in.P)
	case api.OpPLP, api.OpRTI:
		in.P = in.M&^api.FlagB | api.FlagU
	case api.OpBRK:
		in.M = pushed(in.P)
		in.P |= api.FlagI
	}
	return in
}

// pushed is the flags as an instruction pushes them.
func pushed(p uint8) uint8 {
	return p | api.FlagB | api.FlagU
}

// doTest does the operations that put C or V by a way of their own.
func doTest(op api.Op, in api.Alu) api.Alu {
	switch op {
	case api.OpCMP:
		in.P = Cmp(in.A, in.M, in.P)
	case api.OpCPX:
		in.P = Cmp(in.X, in.M, in.P)
	case api.OpCPY:
		in.P = Cmp(in.Y, in.M, in.P)
	case api.OpBIT:
		in.P = put(in.P, api.FlagZ, in.A&in.M == 0)
		in.P = put(in.P, api.FlagN, in.M&0x80 != 0)
		in.P = put(in.P, api.FlagV, in.M&0x40 != 0)
	case api.OpANC:
		in = combine(api.OpAND)(in)
		in.P = put(in.P, api.FlagC, in.A >= 0x80)
	case api.OpALR:
		in.A &= in.M
		in = Acc(api.OpLSR, in)
	case api.OpSBX:
		t := in.A & in.X
		in.X, in.P = t-in.M, Cmp(t, in.M, in.P)
	}
	return in
}

// doPair does the undocumented operations that are two others, which differ by those two alone.
func doPair(op api.Op, in api.Alu) api.Alu {
	switch op {
	case api.OpSLO:
		return pair(shift(api.OpASL), combine(api.OpORA))(in)
	case api.OpRLA:
		return pair(shift(api.OpROL), combine(api.OpAND))(in)
	case api.OpSRE:
		return pair(shift(api.OpLSR), combine(api.OpEOR))(in)
	case api.OpRRA:
		return pair(shift(api.OpROR), add(api.OpADC))(in)
	case api.OpDCP:
		less := func(r api.Alu) api.Alu { r.M--; return r }
		compared := func(r api.Alu) api.Alu { r.P = Cmp(r.A, r.M, r.P); return r }
		return pair(less, compared)(in)
	case api.OpISC:
		more := func(r api.Alu) api.Alu { r.M++; return r }
		return pair(more, add(api.OpSBC))(in)
	}
	return in
}
