package isa

import "tandem/api"

// Line is the instruction at the head of code, which lies at pc, as text.
func Line(code []byte, pc uint16) (string, api.Errno) {
	if len(code) == 0 || len(code) < lenOf(modeOf(code[0])) {
		return "", api.ErrShort
	}
	r := rowOf(code[0])
	text := names[r.op]
	if c, e := Encode(r.op, r.mode); e != api.OK || c != code[0] {
		text += fill(point, uint16(code[0]))
	}
	return text + fill(written(r.mode), shown(r.mode, code, pc)), api.OK
}

// shown is the number that the operand's digits tell.
func shown(mode api.Mode, code []byte, pc uint16) uint16 {
	switch lenOf(mode) {
	case 1:
		return 0
	case 3:
		return uint16(code[1]) | uint16(code[2])<<8
	}
	if mode == api.ModeRel {
		return pc + 2 + uint16(int8(code[1]))
	}
	return uint16(code[1])
}

// fill is a written form with the digits of v, the last of them in the last place.
func fill(text string, v uint16) string {
	out := []byte(text)
	for i := len(out) - 1; i >= 0; i-- {
		if out[i] == digit {
			out[i] = "0123456789ABCDEF"[v&15]
			v >>= 4
		}
	}
	return string(out)
}
