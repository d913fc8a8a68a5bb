package alu_test

import (
	"math/rand"
	"testing"

	"tandem/alu"
	"tandem/api"
)

// wantDo holds one operation against its row of the chapter's table.
func wantDo(t *testing.T, op api.Op, in api.Alu) {
	t.Helper()
	want := in
	if row := toldDo[nameOf(op)]; row != nil {
		row(&want)
	}
	if got := alu.Do(op, in); got != want {
		t.Fatalf("P3.7: Do(%d %s, %+v) = %+v, want %+v", op, nameOf(op), in, got, want)
	}
}

func TestNames(t *testing.T) {
	if len(names) != api.OpCount {
		t.Fatalf("%d names", len(names))
	}
	for op, name := range map[api.Op]string{api.OpADC: "ADC", api.OpLDA: "LDA", api.OpTYA: "TYA", api.OpALR: "ALR", api.OpSRE: "SRE", api.OpJAM: "JAM"} {
		if nameOf(op) != name {
			t.Errorf("%d is %s, not %s", op, nameOf(op), name)
		}
	}
}

// TestDoBytes has all values of each byte for every operation, and all pairs of A and the operand.
func TestDoBytes(t *testing.T) {
	r := rand.New(rand.NewSource(37))
	for _, op := range everyOp() {
		for v := range 256 {
			for _, field := range []func(in *api.Alu) *uint8{
				func(in *api.Alu) *uint8 { return &in.A }, func(in *api.Alu) *uint8 { return &in.X }, func(in *api.Alu) *uint8 { return &in.Y },
				func(in *api.Alu) *uint8 { return &in.S }, func(in *api.Alu) *uint8 { return &in.P }, func(in *api.Alu) *uint8 { return &in.M },
			} {
				for range 4 {
					in := anyAlu(r)
					*field(&in) = uint8(v)
					wantDo(t, op, in)
				}
			}
			for m := range 256 {
				in := anyAlu(r)
				in.A, in.M = uint8(v), uint8(m)
				wantDo(t, op, in)
			}
		}
	}
}

// TestDoFlags has every operation at the edges with C and D clear and set.
func TestDoFlags(t *testing.T) {
	for _, op := range everyOp() {
		for _, v := range edges {
			for _, m := range edges {
				for _, p := range manyFlags {
					wantDo(t, op, api.Alu{A: v, X: m, Y: v, S: m, P: p, M: m})
					wantDo(t, op, api.Alu{A: m, X: v, Y: m, S: v, P: p, M: m})
				}
			}
		}
	}
}

// TestDoWorkedOut has an answer for each row of the table, worked out by hand.
func TestDoWorkedOut(t *testing.T) {
	in := api.Alu{A: 0x81, X: 0x42, Y: 0x00, S: 0xfd, P: 0x71, M: 0x80}
	for name, change := range map[string]func(r *api.Alu){
		"LDA": func(r *api.Alu) { r.A, r.P = 0x80, 0xf1 },
		"LDX": func(r *api.Alu) { r.X, r.P = 0x80, 0xf1 },
		"LDY": func(r *api.Alu) { r.Y, r.P = 0x80, 0xf1 },
		"LAX": func(r *api.Alu) { r.A, r.X, r.P = 0x80, 0x80, 0xf1 },
		"LAS": func(r *api.Alu) { r.A, r.X, r.S, r.P = 0x80, 0x80, 0x80, 0xf1 },
		"STA": func(r *api.Alu) { r.M = 0x81 },
		"STX": func(r *api.Alu) { r.M = 0x42 },
		"STY": func(r *api.Alu) { r.M = 0x00 },
		"SAX": func(r *api.Alu) { r.M = 0x00 },
		"TAX": func(r *api.Alu) { r.X, r.P = 0x81, 0xf1 },
		"TAY": func(r *api.Alu) { r.Y, r.P = 0x81, 0xf1 },
		"TXA": func(r *api.Alu) { r.A = 0x42 },
		"TYA": func(r *api.Alu) { r.A, r.P = 0x00, 0x73 },
		"TSX": func(r *api.Alu) { r.X, r.P = 0xfd, 0xf1 },
		"TXS": func(r *api.Alu) { r.S = 0x42 },
		"AND": func(r *api.Alu) { r.A, r.P = 0x80, 0xf1 },
		"ORA": func(r *api.Alu) { r.P = 0xf1 },
		"EOR": func(r *api.Alu) { r.A = 0x01 },
		"BIT": func(r *api.Alu) { r.P = 0xb1 },
		"ADC": func(r *api.Alu) { r.A = 0x02 },
		"SBC": func(r *api.Alu) { r.A, r.P = 0x01, 0x31 },
		"ARR": func(r *api.Alu) { r.A, r.P = 0xc0, 0xf1 },
		"CMP": func(r *api.Alu) {},
		"CPX": func(r *api.Alu) { r.P = 0xf0 },
		"CPY": func(r *api.Alu) { r.P = 0xf0 },
		"INC": func(r *api.Alu) { r.M, r.P = 0x81, 0xf1 },
		"DEC": func(r *api.Alu) { r.M = 0x7f },
		"INX": func(r *api.Alu) { r.X = 0x43 },
		"INY": func(r *api.Alu) { r.Y = 0x01 },
		"DEX": func(r *api.Alu) { r.X = 0x41 },
		"DEY": func(r *api.Alu) { r.Y, r.P = 0xff, 0xf1 },
		"ASL": func(r *api.Alu) { r.M, r.P = 0x00, 0x73 },
		"LSR": func(r *api.Alu) { r.M, r.P = 0x40, 0x70 },
		"ROL": func(r *api.Alu) { r.M = 0x01 },
		"ROR": func(r *api.Alu) { r.M, r.P = 0xc0, 0xf0 },
		"SLO": func(r *api.Alu) { r.M, r.P = 0x00, 0xf1 },
		"RLA": func(r *api.Alu) { r.M, r.A = 0x01, 0x01 },
		"SRE": func(r *api.Alu) { r.M, r.A, r.P = 0x40, 0xc1, 0xf0 },
		"RRA": func(r *api.Alu) { r.M, r.A, r.P = 0xc0, 0x41, 0x71 },
		"DCP": func(r *api.Alu) { r.M = 0x7f },
		"ISC": func(r *api.Alu) { r.M, r.A, r.P = 0x81, 0x00, 0x33 },
		"ANC": func(r *api.Alu) { r.A, r.P = 0x80, 0xf1 },
		"ALR": func(r *api.Alu) { r.A, r.P = 0x40, 0x70 },
		"SBX": func(r *api.Alu) { r.X, r.P = 0x80, 0xf0 },
		"CLC": func(r *api.Alu) { r.P = 0x70 },
		"CLD": func(r *api.Alu) {},
		"CLI": func(r *api.Alu) {},
		"CLV": func(r *api.Alu) { r.P = 0x31 },
		"SEC": func(r *api.Alu) {},
		"SED": func(r *api.Alu) { r.P = 0x79 },
		"SEI": func(r *api.Alu) { r.P = 0x75 },
		"PHA": func(r *api.Alu) { r.M = 0x81 },
		"PHP": func(r *api.Alu) { r.M = 0x71 },
		"PLA": func(r *api.Alu) { r.A, r.P = 0x80, 0xf1 },
		"PLP": func(r *api.Alu) { r.P = 0xa0 },
		"RTI": func(r *api.Alu) { r.P = 0xa0 },
		"BRK": func(r *api.Alu) { r.M, r.P = 0x71, 0x75 },
	} {
		want := in
		change(&want)
		if got := alu.Do(opOf(t, name), in); got != want {
			t.Errorf("P3.7: Do(%s, %+v) = %+v, want %+v", name, in, got, want)
		}
	}
}

// TestDoStatus: what PHP and BRK push and what PLP and RTI pull, for all values of P and of the operand.
func TestDoStatus(t *testing.T) {
	for v := range 256 {
		p := uint8(v)
		in := api.Alu{A: 1, X: 2, Y: 3, S: 4, P: p, M: 0x5a}
		push, brk := in, in
		push.M, brk.M, brk.P = p|0x30, p|0x30, p|0x04
		if got := alu.Do(api.OpPHP, in); got != push {
			t.Errorf("P3.7: PHP of %#x: %+v", p, got)
		}
		if got := alu.Do(api.OpBRK, in); got != brk {
			t.Errorf("P3.7: BRK of %#x: %+v", p, got)
		}
		for _, op := range []api.Op{api.OpPLP, api.OpRTI} {
			for _, was := range []uint8{0x00, 0x10, 0x20, 0x30, 0xff} {
				in := api.Alu{A: 1, X: 2, Y: 3, S: 4, P: was, M: p}
				want := in
				want.P = p&0xcf | 0x20
				if got := alu.Do(op, in); got != want {
					t.Errorf("P3.7: %s of %#x: %+v", nameOf(op), p, got)
				}
			}
		}
	}
}

func TestDoNothing(t *testing.T) {
	r := rand.New(rand.NewSource(73))
	ops := append([]api.Op{api.OpBCC, api.OpBCS, api.OpBEQ, api.OpBMI, api.OpBNE, api.OpBPL, api.OpBVC, api.OpBVS,
		api.OpJMP, api.OpJSR, api.OpRTS, api.OpNOP, api.OpJAM}, noOps...)
	for _, op := range ops {
		for range 1000 {
			in := anyAlu(r)
			if got := alu.Do(op, in); got != in {
				t.Fatalf("P3.7: Do(%d %s, %+v) = %+v", op, nameOf(op), in, got)
			}
		}
	}
}

func TestAcc(t *testing.T) {
	r := rand.New(rand.NewSource(38))
	for _, op := range everyOp() {
		for a := range 256 {
			for _, p := range manyFlags {
				in := anyAlu(r)
				in.A, in.P = uint8(a), p
				want := in
				want.A, want.P = toldShift(op, in.A, in.P)
				if got := alu.Acc(op, in); got != want {
					t.Fatalf("P3.8: Acc(%d %s, %+v) = %+v, want %+v", op, nameOf(op), in, got, want)
				}
			}
		}
	}
	in := api.Alu{A: 0x81, X: 1, Y: 2, S: 3, P: 0x31, M: 0x55}
	for op, want := range map[api.Op][2]uint8{
		api.OpASL: {0x02, 0x31}, api.OpLSR: {0x40, 0x31}, api.OpROL: {0x03, 0x31}, api.OpROR: {0xc0, 0xb1},
		api.OpINC: {0x81, 0x31}, api.OpALR: {0x81, 0x31}, api.OpSLO: {0x81, 0x31}, -1: {0x81, 0x31}, api.OpCount: {0x81, 0x31},
	} {
		out := in
		out.A, out.P = want[0], want[1]
		if got := alu.Acc(op, in); got != out {
			t.Errorf("P3.8: Acc(%s, %+v) = %+v, want %+v", nameOf(op), in, got, out)
		}
	}
}

// TestAlone: an answer hangs on the arguments alone, not on what was asked ahead of it.
func TestAlone(t *testing.T) {
	type question struct {
		op api.Op
		in api.Alu
	}
	type answer struct {
		do, acc     api.Alu
		taken       bool
		needs, sets uint8
	}
	ask := func(q question) answer {
		return answer{alu.Do(q.op, q.in), alu.Acc(q.op, q.in), alu.Taken(q.op, q.in.P), alu.Needs(q.op), alu.Sets(q.op)}
	}
	r := rand.New(rand.NewSource(2))
	ops := everyOp()
	first := map[question]answer{}
	for range 20000 {
		q := question{ops[r.Intn(len(ops))], anyAlu(r)}
		first[q] = ask(q)
	}
	for q, want := range first { // in another order
		if got := ask(q); got != want {
			t.Fatalf("P2: %s, %+v: first %+v, then %+v", nameOf(q.op), q.in, want, got)
		}
	}
}
