package alu

import "tandem/api"

// step is an operation, or a part of one: what is ahead of it goes in, what is behind it comes out. It goes by value, so that nothing of it has to live beyond a call.
type step func(r api.Alu) api.Alu

// same is the step that does nothing.
func same(r api.Alu) api.Alu { return r }

// told is r with N and Z put by v.
func told(r api.Alu, v uint8) api.Alu {
	r.P = Nz(v, r.P)
	return r
}

// pair makes one step of two: the second one sees what the first one left.
func pair(first, second step) step {
	return func(r api.Alu) api.Alu { return second(first(r)) }
}

// shift makes a shift of the operand.
func shift(op api.Op) step {
	return func(r api.Alu) api.Alu {
		r.M, r.P = Shift(op, r.M, r.P)
		return r
	}
}

// load makes the loads, which differ by where the operand goes alone.
func load(op api.Op) step {
	switch op {
	case api.OpLDA, api.OpPLA:
		return func(r api.Alu) api.Alu { r.A = r.M; return told(r, r.A) }
	case api.OpLDX:
		return func(r api.Alu) api.Alu { r.X = r.M; return told(r, r.X) }
	case api.OpLDY:
		return func(r api.Alu) api.Alu { r.Y = r.M; return told(r, r.Y) }
	case api.OpLAX:
		return func(r api.Alu) api.Alu { r.A, r.X = r.M, r.M; return told(r, r.A) }
	case api.OpLAS:
		return func(r api.Alu) api.Alu { r.S &= r.M; r.A, r.X = r.S, r.S; return told(r, r.A) }
	}
	return same
}

// transfer makes the transfers, which differ by the two registers alone; TXS tells no flag.
func transfer(op api.Op) step {
	switch op {
	case api.OpTAX:
		return func(r api.Alu) api.Alu { r.X = r.A; return told(r, r.X) }
	case api.OpTAY:
		return func(r api.Alu) api.Alu { r.Y = r.A; return told(r, r.Y) }
	case api.OpTXA:
		return func(r api.Alu) api.Alu { r.A = r.X; return told(r, r.A) }
	case api.OpTYA:
		return func(r api.Alu) api.Alu { r.A = r.Y; return told(r, r.A) }
	case api.OpTSX:
		return func(r api.Alu) api.Alu { r.X = r.S; return told(r, r.X) }
	case api.OpTXS:
		return func(r api.Alu) api.Alu { r.S = r.X; return r }
	}
	return same
}

// store makes the stores, which differ by what the operand becomes alone.
func store(op api.Op) step {
	switch op {
	case api.OpSTA, api.OpPHA:
		return func(r api.Alu) api.Alu { r.M = r.A; return r }
	case api.OpSTX:
		return func(r api.Alu) api.Alu { r.M = r.X; return r }
	case api.OpSTY:
		return func(r api.Alu) api.Alu { r.M = r.Y; return r }
	case api.OpSAX:
		return func(r api.Alu) api.Alu { r.M = r.A & r.X; return r }
	}
	return same
}

// count makes the operations by one more or one less, which differ by what they count alone.
func count(op api.Op) step {
	switch op {
	case api.OpINC:
		return func(r api.Alu) api.Alu { r.M++; return told(r, r.M) }
	case api.OpINX:
		return func(r api.Alu) api.Alu { r.X++; return told(r, r.X) }
	case api.OpINY:
		return func(r api.Alu) api.Alu { r.Y++; return told(r, r.Y) }
	case api.OpDEC:
		return func(r api.Alu) api.Alu { r.M--; return told(r, r.M) }
	case api.OpDEX:
		return func(r api.Alu) api.Alu { r.X--; return told(r, r.X) }
	case api.OpDEY:
		return func(r api.Alu) api.Alu { r.Y--; return told(r, r.Y) }
	}
	return same
}

// combine makes the operations on A and the operand bit by bit.
func combine(op api.Op) step {
	switch op {
	case api.OpAND:
		return func(r api.Alu) api.Alu { r.A &= r.M; return told(r, r.A) }
	case api.OpORA:
		return func(r api.Alu) api.Alu { r.A |= r.M; return told(r, r.A) }
	case api.OpEOR:
		return func(r api.Alu) api.Alu { r.A ^= r.M; return told(r, r.A) }
	}
	return same
}

// add makes the operations whose A and flags come out of one sum.
func add(op api.Op) step {
	switch op {
	case api.OpADC:
		return func(r api.Alu) api.Alu { r.A, r.P = Adc(r.A, r.M, r.P); return r }
	case api.OpSBC:
		return func(r api.Alu) api.Alu { r.A, r.P = Sbc(r.A, r.M, r.P); return r }
	case api.OpARR:
		return func(r api.Alu) api.Alu { r.A, r.P = Arr(r.A, r.M, r.P); return r }
	}
	return same
}
