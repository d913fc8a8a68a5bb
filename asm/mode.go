package asm

import (
	"errors"

	"tandem/api"
	"tandem/isa"
)

// has tells whether an operation has a mode.
func has(op api.Op, mode api.Mode) bool {
	_, e := isa.Encode(op, mode)
	return e == api.OK
}

// modes is the two modes that an operand may mean: the first is the better one.
func (st *statement) modes() (api.Mode, api.Mode) {
	switch st.shape {
	case shapeNone:
		return api.ModeImp, api.ModeAcc
	case shapeA:
		return api.ModeAcc, api.ModeAcc
	case shapeImm:
		return api.ModeImm, api.ModeImm
	case shapeViaX:
		return api.ModeIzx, api.ModeIzx
	case shapeViaY:
		return api.ModeIzy, api.ModeIzy
	case shapeVia:
		return api.ModeInd, api.ModeInd
	case shapeX:
		return api.ModeZpx, api.ModeAbx
	case shapeY:
		return api.ModeZpy, api.ModeAby
	}
	if has(st.op, api.ModeRel) {
		return api.ModeRel, api.ModeRel
	}
	return api.ModeZp, api.ModeAbs
}

// choose settles the mode of an operation, and with it the opcode.
func (p *program) choose(st *statement) error {
	better, other := st.modes()
	if !has(st.op, better) && !has(st.op, other) {
		return wrong(st.lacking(), ErrMode)
	}
	fits := true
	switch better {
	case api.ModeZp, api.ModeZpx, api.ModeZpy:
		var err error
		if fits, err = p.short(st); err != nil {
			return err
		}
	}
	st.mode = better
	if has(st.op, other) && !(fits && has(st.op, better)) {
		st.mode = other
	}
	st.code, _ = isa.Encode(st.op, st.mode)
	return nil
}

// lacking is the column at which an operand is told to be no such one.
func (st *statement) lacking() int {
	if st.shape == shapeNone {
		return st.head.col
	}
	return st.operand.col
}

// short tells whether an operand may be an address of one byte. A name that only a line below gives is no fault here: the second pass will know it.
func (p *program) short(st *statement) (bool, error) {
	v, err := st.e.value(p.scope(st))
	if errors.Is(err, ErrUnknown) {
		return false, nil
	}
	return err == nil && 0 <= v && v <= 255 && !st.e.wide, err
}
