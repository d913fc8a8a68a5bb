package isa_test

import (
	"math"
	"math/rand"
	"strings"
	"testing"

	"tandem/api"
	"tandem/isa"
)

// names is the operations in the order of their numbers.
var names = strings.Fields("ADC AND ASL BCC BCS BEQ BIT BMI BNE BPL BRK BVC BVS CLC CLD CLI CLV CMP CPX CPY DEC DEX DEY EOR INC INX INY JMP JSR " +
	"LDA LDX LDY LSR NOP ORA PHA PHP PLA PLP ROL ROR RTI RTS SBC SEC SED SEI STA STX STY TAX TAY TSX TXA TXS TYA " +
	"ALR ANC ARR DCP ISC LAS LAX RLA RRA SAX SBX SLO SRE JAM")

// noOps is numbers that are no operation's, some of which would be one if their upper bits were lost.
var noOps = []api.Op{-1, -2, -70, -200, -256, api.OpCount, api.OpCount + 1, 99, 127, 128, 255, 256, 256 + api.OpLDA,
	1<<16 + api.OpASL, 1<<32 + api.OpADC, 1<<32 + api.OpPLP, math.MaxInt, math.MinInt, math.MinInt + api.OpBRK}

// noModes is numbers that are no mode's.
var noModes = []api.Mode{-1, -2, -13, api.ModeRel + 1, 14, 99, 255, 256, 256 + api.ModeImm, 1<<32 + api.ModeAbs, math.MaxInt, math.MinInt, math.MinInt + api.ModeZp}

// everyOp is all operations, then numbers that are none.
func everyOp() []api.Op {
	var ops []api.Op
	for n := range names {
		ops = append(ops, api.Op(n))
	}
	return append(ops, noOps...)
}

// everyMode is all modes, then numbers that are none.
func everyMode() []api.Mode {
	var modes []api.Mode
	for m := api.ModeImp; m <= api.ModeRel; m++ {
		modes = append(modes, m)
	}
	return append(modes, noModes...)
}

// opOf is the operation of a name; -1 if there is none.
func opOf(name string) api.Op {
	for n, s := range names {
		if s == name {
			return api.Op(n)
		}
	}
	return -1
}

// bools is both of them.
var bools = []bool{false, true}

// everyAsk goes through all opcodes, crossed or not, taken or not.
func everyAsk(yield func(code uint8, crossed, taken bool)) {
	for code := range 256 {
		for _, crossed := range bools {
			for _, taken := range bools {
				yield(uint8(code), crossed, taken)
			}
		}
	}
}

// pcs is addresses at which a target turns over, and some others.
var pcs = []uint16{0, 1, 2, 0x7d, 0x7e, 0x7f, 0x80, 0x81, 0x82, 0xfe, 0xff, 0x100, 0x0f00, 0x1000, 0x7fff, 0x8000, 0xc000, 0xff7d, 0xff7e, 0xff7f, 0xff80, 0xff81, 0xff82, 0xfffc, 0xfffd, 0xfffe, 0xffff}

// lineOf is a line that must come out.
func lineOf(t *testing.T, code []byte, pc uint16) string {
	t.Helper()
	line, e := isa.Line(code, pc)
	if e != api.OK {
		t.Fatalf("P4.5: Line(% x, %04x) gives the error %d", code, pc, e)
	}
	return line
}

// mixed is a text with some of its letters turned into small ones.
func mixed(r *rand.Rand, s string) string {
	b := []byte(s)
	for i := range b {
		if r.Intn(2) == 0 {
			b[i] = strings.ToLower(s[i : i+1])[0]
		}
	}
	return string(b)
}
