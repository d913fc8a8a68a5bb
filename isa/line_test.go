package isa_test

import (
	"bytes"
	"slices"
	"testing"

	"tandem/api"
	"tandem/isa"
)

func TestLineByHand(t *testing.T) {
	for _, c := range []struct {
		code []byte
		pc   uint16
		want string
		e    api.Errno
	}{
		{[]byte{0xa9, 0x12}, 0, "LDA #$12", api.OK},
		{[]byte{0xb1, 0x80, 0xff}, 0, "LDA ($80),Y", api.OK},
		{[]byte{0xd0, 0xfe}, 0xc000, "BNE $C000", api.OK},
		{[]byte{0x30, 0x80}, 0, "BMI $FF82", api.OK},
		{[]byte{0x6c, 0xff, 0x10}, 0, "JMP ($10FF)", api.OK},
		{[]byte{0x0a}, 0, "ASL A", api.OK},
		{[]byte{0x04, 0x33}, 0, "NOP $33", api.OK},
		{[]byte{0x44, 0x33}, 0, "NOP.44 $33", api.OK},
		{[]byte{0x8d, 0}, 0, "", api.ErrShort},

		{[]byte{0x1a}, 0, "NOP.1A", api.OK},
		{[]byte{0xea}, 0, "NOP", api.OK},
		{[]byte{0x80, 0x12}, 0, "NOP #$12", api.OK},
		{[]byte{0x82, 0x12}, 0, "NOP.82 #$12", api.OK},
		{[]byte{0x8b, 0x12}, 0, "NOP.8B #$12", api.OK},
		{[]byte{0x93, 0x0a}, 0, "NOP.93 ($0A),Y", api.OK},
		{[]byte{0x9b, 0x34, 0x12}, 0, "NOP.9B $1234,Y", api.OK},
		{[]byte{0x9c, 0x34, 0x12}, 0, "NOP.9C $1234,X", api.OK},
		{[]byte{0xe9, 0x12}, 0, "SBC #$12", api.OK},
		{[]byte{0xeb, 0x12}, 0, "SBC.EB #$12", api.OK},
		{[]byte{0x0b, 0x12}, 0, "ANC #$12", api.OK},
		{[]byte{0x2b, 0x12}, 0, "ANC.2B #$12", api.OK},
		{[]byte{0x02}, 0, "JAM", api.OK},
		{[]byte{0x12}, 0, "JAM.12", api.OK},
		{[]byte{0x00, 0xff}, 0, "BRK", api.OK},
		{[]byte{0xa5, 0xab}, 0, "LDA $AB", api.OK},
		{[]byte{0xb5, 0xcd}, 0, "LDA $CD,X", api.OK},
		{[]byte{0xb6, 0xef}, 0, "LDX $EF,Y", api.OK},
		{[]byte{0xad, 0xcd, 0xab}, 0, "LDA $ABCD", api.OK},
		{[]byte{0xbd, 0x34, 0x12}, 0, "LDA $1234,X", api.OK},
		{[]byte{0xb9, 0x00, 0x00}, 0, "LDA $0000,Y", api.OK},
		{[]byte{0xa1, 0x0f}, 0, "LDA ($0F,X)", api.OK},
		{[]byte{0x20, 0xfe, 0xff}, 0, "JSR $FFFE", api.OK},
		{[]byte{0xf0, 0x7f}, 0xff80, "BEQ $0001", api.OK},
		{[]byte{0xf0, 0x7f}, 0x1000, "BEQ $1081", api.OK},
		{[]byte{0xf0, 0x80}, 0x1000, "BEQ $0F82", api.OK},
		{[]byte{0xf0, 0x00}, 0xfffe, "BEQ $0000", api.OK},
		{[]byte{0xf0, 0xff}, 0xffff, "BEQ $0000", api.OK},
	} {
		if got, e := isa.Line(c.code, c.pc); got != c.want || e != c.e {
			t.Errorf("P4.5: Line(% x, %04x) = %q, %d, want %q, %d", c.code, c.pc, got, e, c.want, c.e)
		}
	}
}

func TestLines(t *testing.T) {
	for i := range 256 {
		for b := range 256 {
			code := []byte{uint8(i), uint8(b), uint8(b*7 + i)}
			for _, pc := range []uint16{0, 0x80fe, 0xfff0} {
				want, _ := toldLine(code, pc)
				if got, e := isa.Line(code, pc); got != want || e != api.OK {
					t.Errorf("P4.5: Line(% x, %04x) = %q, %d, want %q", code, pc, got, e, want)
				}
			}
		}
	}
}

func TestLineOfEveryAddress(t *testing.T) {
	for pc := range 65536 {
		for _, code := range [][]byte{{0x10, 0x7f}, {0xb0, 0x80}, {0x50, uint8(pc)}, {0xad, uint8(pc), uint8(pc >> 8)}} {
			want, _ := toldLine(code, uint16(pc))
			if got, e := isa.Line(code, uint16(pc)); got != want || e != api.OK {
				t.Fatalf("P4.5: Line(% x, %04x) = %q, %d, want %q", code, pc, got, e, want)
			}
		}
	}
}

func TestLineOfTooFewBytes(t *testing.T) {
	for _, none := range [][]byte{nil, {}, make([]byte, 0, 8)} {
		if got, e := isa.Line(none, 0x1234); got != "" || e != api.ErrShort {
			t.Errorf("P4.5: Line of no bytes = %q, %d", got, e)
		}
	}
	for i := range 256 {
		whole := []byte{uint8(i), 0x34, 0x12, 0x56, 0x78}
		need := toldLen(uint8(i))
		for n := 1; n <= len(whole); n++ {
			got, e := isa.Line(whole[:n], 0x8000) // what lies in the spare room is no part of it
			want, f := toldLine(whole[:need], 0x8000)
			if n < need {
				want, f = "", api.ErrShort
			}
			if got != want || e != f {
				t.Errorf("P4.5: Line(% x) = %q, %d, want %q, %d", whole[:n], got, e, want, f)
			}
		}
	}
}

func TestLineLeavesItsCode(t *testing.T) {
	for i := range 256 {
		code := []byte{uint8(i), 0xab, 0xcd, 0xef}
		was := slices.Clone(code)
		line := lineOf(t, code, 0xfffe)
		if !bytes.Equal(code, was) {
			t.Errorf("P4.8: Line changed % x to % x", was, code)
		}
		spoil(code, 0)
		if want, _ := toldLine(was, 0xfffe); line != want {
			t.Errorf("P4.8: Line(% x) became %q with its code", was, line)
		}
	}
}
