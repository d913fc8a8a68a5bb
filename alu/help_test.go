package alu_test

import (
	"math"
	"math/rand"
	"strings"
	"testing"

	"tandem/api"
)

// names is the operations in the order of their numbers.
var names = strings.Fields("ADC AND ASL BCC BCS BEQ BIT BMI BNE BPL BRK BVC BVS CLC CLD CLI CLV CMP CPX CPY DEC DEX DEY EOR INC INX INY JMP JSR " +
	"LDA LDX LDY LSR NOP ORA PHA PHP PLA PLP ROL ROR RTI RTS SBC SEC SED SEI STA STX STY TAX TAY TSX TXA TXS TYA " +
	"ALR ANC ARR DCP ISC LAS LAX RLA RRA SAX SBX SLO SRE JAM")

// noOps is numbers that are no operation's, some of which would be one if their upper bits were lost.
var noOps = []api.Op{-1, -2, -70, -200, -256, api.OpCount, api.OpCount + 1, 99, 127, 128, 255, 256, 256 + api.OpLDA, 256 + api.OpBEQ,
	1<<16 + api.OpASL, 1<<32 + api.OpADC, 1<<32 + api.OpPLP, math.MaxInt, math.MinInt, math.MinInt + api.OpBRK}

// everyOp is all operations, then numbers that are none.
func everyOp() []api.Op {
	var ops []api.Op
	for n := range names {
		ops = append(ops, api.Op(n))
	}
	return append(ops, noOps...)
}

// nameOf is how a test tells an operation.
func nameOf(op api.Op) string {
	if op >= 0 && int(op) < len(names) {
		return names[op]
	}
	return "no operation"
}

// opOf is the operation of a name.
func opOf(t *testing.T, name string) api.Op {
	t.Helper()
	for n, s := range names {
		if s == name {
			return api.Op(n)
		}
	}
	t.Fatalf("no operation %s", name)
	return -1
}

// edges is bytes at which something turns over.
var edges = []uint8{0x00, 0x01, 0x05, 0x09, 0x0a, 0x0f, 0x10, 0x3f, 0x40, 0x50, 0x7f, 0x80, 0x81, 0x99, 0x9a, 0xa0, 0xbf, 0xc0, 0xf0, 0xfe, 0xff}

func anyByte(r *rand.Rand) uint8 {
	if r.Intn(3) == 0 {
		return edges[r.Intn(len(edges))]
	}
	return uint8(r.Intn(256))
}

func anyAlu(r *rand.Rand) api.Alu {
	return api.Alu{A: anyByte(r), X: anyByte(r), Y: anyByte(r), S: anyByte(r), P: uint8(r.Intn(256)), M: anyByte(r)}
}

// manyFlags is values of P: C and D clear and set, all others clear, set, and mixed.
var manyFlags = func() []uint8 {
	var l []uint8
	for _, others := range []uint8{0x00, 0xf6, 0x20, 0x30, 0xa2, 0x54, 0x86, 0x72} {
		l = append(l, others, others|0x01, others|0x08, others|0x09)
	}
	return l
}()

// everySum goes through all pairs of bytes with many flags.
func everySum(yield func(a, m, p uint8)) {
	for a := range 256 {
		for m := range 256 {
			for _, p := range manyFlags {
				yield(uint8(a), uint8(m), p)
			}
		}
	}
}
