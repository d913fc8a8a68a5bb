package alu_test

import (
	"math/rand"
	"strings"
	"testing"

	"tandem/alu"
	"tandem/api"
)

// toldFlags is the table of P3.10, row by row; what isn't there has 0 and 0.
var toldFlags = []struct {
	ops         string
	needs, sets uint8
}{
	{"LDA LDX LDY LAX LAS TAX TAY TXA TYA TSX AND ORA EOR INC DEC INX INY DEX DEY PLA", 0x00, 0x82},
	{"ASL LSR SLO SRE CMP CPX CPY DCP SBX ANC ALR", 0x00, 0x83},
	{"ROL ROR RLA", 0x01, 0x83},
	{"ADC SBC ARR RRA ISC", 0x09, 0xc3},
	{"BIT", 0x00, 0xc2},
	{"CLC SEC", 0x00, 0x01},
	{"CLD SED", 0x00, 0x08},
	{"CLI SEI", 0x00, 0x04},
	{"CLV", 0x00, 0x40},
	{"PLP RTI", 0x00, 0xff},
	{"PHP", 0xcf, 0x00},
	{"BRK", 0xcf, 0x04},
	{"BCC BCS", 0x01, 0x00},
	{"BEQ BNE", 0x02, 0x00},
	{"BMI BPL", 0x80, 0x00},
	{"BVC BVS", 0x40, 0x00},
}

func TestNeedsAndSets(t *testing.T) {
	var needs, sets [api.OpCount]uint8
	for _, row := range toldFlags {
		for _, name := range strings.Fields(row.ops) {
			op := opOf(t, name)
			needs[op], sets[op] = row.needs, row.sets
		}
	}
	for op := range api.Op(api.OpCount) {
		if alu.Needs(op) != needs[op] {
			t.Errorf("P3.10: Needs(%s) = %#x, want %#x", nameOf(op), alu.Needs(op), needs[op])
		}
		if alu.Sets(op) != sets[op] {
			t.Errorf("P3.10: Sets(%s) = %#x, want %#x", nameOf(op), alu.Sets(op), sets[op])
		}
	}
	for _, op := range noOps {
		if alu.Needs(op) != 0 || alu.Sets(op) != 0 {
			t.Errorf("P3.10: %d is no operation: Needs %#x, Sets %#x", op, alu.Needs(op), alu.Sets(op))
		}
	}
}

// isShift tells whether an operation has a form on A.
func isShift(op api.Op) bool {
	return op == api.OpASL || op == api.OpLSR || op == api.OpROL || op == api.OpROR
}

// outcome is all that hangs on P.
type outcome struct {
	do, acc api.Alu
	taken   bool
}

// outcomeOf is what comes of an operation; Acc is left out where there is no such form.
func outcomeOf(op api.Op, in api.Alu) outcome {
	o := outcome{do: alu.Do(op, in), taken: alu.Taken(op, in.P)}
	if isShift(op) {
		o.acc = alu.Acc(op, in)
	}
	return o
}

// without is an outcome but for one flag.
func (o outcome) without(flag uint8) outcome {
	o.do.P &^= flag
	o.acc.P &^= flag
	return o
}

// inputs is what each operation is tried on.
func inputs(op api.Op) []api.Alu {
	r := rand.New(rand.NewSource(int64(op)))
	var l []api.Alu
	for range 400 {
		l = append(l, anyAlu(r))
	}
	for p := range 256 {
		in := anyAlu(r)
		in.P = uint8(p)
		l = append(l, in)
	}
	return l
}

// TestTurnedOver: a flag that isn't needed turns nothing over but itself, and not even that if it is set anew.
func TestTurnedOver(t *testing.T) {
	for _, op := range everyOp() {
		for _, in := range inputs(op) {
			for flag := uint8(1); flag != 0; flag <<= 1 {
				if alu.Needs(op)&flag != 0 {
					continue
				}
				over := in
				over.P ^= flag
				a, b := outcomeOf(op, in), outcomeOf(op, over)
				if a.without(flag) != b.without(flag) {
					t.Fatalf("P3.10: %s, %+v: %#x turned over: %+v and %+v", nameOf(op), in, flag, a, b)
				}
				if alu.Sets(op)&flag != 0 && a != b {
					t.Fatalf("P3.10: %s, %+v: %#x is set anew, and is handed on: %+v and %+v", nameOf(op), in, flag, a, b)
				}
				if alu.Sets(op)&flag == 0 && b.do.P != a.do.P^flag {
					t.Fatalf("P3.10: %s, %+v: %#x isn't set anew, and isn't handed on: %+v and %+v", nameOf(op), in, flag, a, b)
				}
			}
		}
	}
}

// TestNeeded: something hangs on each flag that is needed, and each flag that is set anew becomes another for some input.
func TestNeeded(t *testing.T) {
	for _, op := range everyOp() {
		var needed, changed uint8
		for _, in := range inputs(op) {
			for flag := uint8(1); flag != 0; flag <<= 1 {
				over := in
				over.P ^= flag
				if outcomeOf(op, in).without(flag) != outcomeOf(op, over).without(flag) {
					needed |= flag
				}
			}
			changed |= in.P ^ alu.Do(op, in).P
		}
		if needed != alu.Needs(op) {
			t.Errorf("P3.10: %s: something hangs on %#x, Needs is %#x", nameOf(op), needed, alu.Needs(op))
		}
		if changed != alu.Sets(op) {
			t.Errorf("P3.10: %s: %#x change, Sets is %#x", nameOf(op), changed, alu.Sets(op))
		}
	}
}

func TestTaken(t *testing.T) {
	for p := range 256 {
		n, v, z, c := p&0x80 != 0, p&0x40 != 0, p&0x02 != 0, p&0x01 != 0
		want := map[api.Op]bool{
			api.OpBCC: !c, api.OpBCS: c, api.OpBNE: !z, api.OpBEQ: z,
			api.OpBPL: !n, api.OpBMI: n, api.OpBVC: !v, api.OpBVS: v,
		}
		for _, op := range everyOp() {
			if got := alu.Taken(op, uint8(p)); got != want[op] {
				t.Errorf("P3.9: Taken(%d %s, %#x) = %v", op, nameOf(op), p, got)
			}
		}
	}
}
