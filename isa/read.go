package isa

import (
	"strings"

	"tandem/api"
)

// maxLine is the bytes of the longest line that is read.
const maxLine = 32

// parts is what a line says.
type parts struct {
	op      api.Op
	pointed bool  // an opcode is written behind the name
	code    uint8 // that opcode
	mode    api.Mode
	value   uint16 // the operand's digits
	place   int    // of the operand's first byte
}

// Read is one instruction's text as bytes: OK or the error, the column of the fault.
func Read(line string, pc uint16) ([]byte, api.Errno, int) {
	if len(line) > maxLine {
		return nil, api.ErrLong, 0
	}
	op, ok := named(line)
	if !ok {
		return nil, api.ErrName, 0
	}
	p, e, place := cut(line, op)
	if e != api.OK {
		return nil, e, place
	}
	code, e, place := p.choose()
	if e != api.OK {
		return nil, e, place
	}
	return p.lay(code, pc)
}

// named is the operation whose name a line begins with.
func named(line string) (api.Op, bool) {
	if len(line) < 3 {
		return 0, false
	}
	for op := range names {
		if fits(line, names[op]) == 3 {
			return api.Op(op), true
		}
	}
	return 0, false
}

// fits is how many bytes at the beginning of text are as a written form has them.
func fits(text, pattern string) int {
	n := 0
	for n < len(text) && n < len(pattern) && fitsAt(text[n], pattern[n]) {
		n++
	}
	return n
}

// fitsAt tells whether a byte may stand where a written form has this one.
func fitsAt(b, pattern byte) bool {
	if pattern == digit {
		return hexOf(b) < 16
	}
	return upper(b) == pattern
}

// digits is the number that a text's digits tell, where a written form has them.
func digits(text, pattern string) uint16 {
	v := uint16(0)
	for i := range len(pattern) {
		if pattern[i] == digit {
			v = v<<4 | uint16(hexOf(text[i]))
		}
	}
	return v
}

// cut takes a line behind its name to pieces; of one that has no instruction's form it tells where it leaves them all.
func cut(line string, op api.Op) (parts, api.Errno, int) {
	p := parts{op: op, pointed: strings.HasPrefix(line[3:], ".")}
	opcode := ""
	if p.pointed {
		opcode = point
	}
	best := 0
	for f := range forms {
		text := opcode + forms[f].text
		n := fits(line[3:], text)
		if n == len(text) && n == len(line)-3 {
			behind := 3 + len(opcode)
			p.code = uint8(digits(line[3:], opcode))
			p.mode = meant(op, forms[f].mode)
			p.value = digits(line[behind:], forms[f].text)
			p.place = min(behind+1, len(line))
			return p, api.OK, 0
		}
		best = max(best, n)
	}
	return parts{}, api.ErrLine, 3 + best
}

// meant is the mode that a form stands for with this operation: an address behind a branch's name is its target.
func meant(op api.Op, mode api.Mode) api.Mode {
	if _, e := Encode(op, api.ModeRel); e == api.OK && mode == api.ModeAbs {
		return api.ModeRel
	}
	return mode
}

// choose is the opcode of a line.
func (p parts) choose() (uint8, api.Errno, int) {
	if !p.pointed {
		code, e := Encode(p.op, p.mode)
		return code, e, p.place
	}
	r := table[p.code]
	if r.op != p.op {
		return 0, api.ErrName, 3
	}
	if r.mode != p.mode {
		return 0, api.ErrMode, p.place
	}
	return p.code, api.OK, p.place
}

// lay is the bytes of a line that lies at pc.
func (p parts) lay(code uint8, pc uint16) ([]byte, api.Errno, int) {
	if p.mode == api.ModeRel {
		distance := int16(p.value - pc - 2)
		if distance < -128 || distance > 127 {
			return nil, api.ErrRange, p.place
		}
		return []byte{code, uint8(distance)}, api.OK, 0
	}
	laid := []byte{code, uint8(p.value), uint8(p.value >> 8)}
	return laid[:lenOf(p.mode)], api.OK, 0
}
