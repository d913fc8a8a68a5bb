package alu_test

import (
	"testing"

	"tandem/alu"
	"tandem/api"
)

// sum is one of the calls that make a byte and flags out of two bytes and flags.
type sum = func(a, m, p uint8) (uint8, uint8)

// wantSum holds a call against the chapter's words for all pairs of bytes for which it is asked.
func wantSum(t *testing.T, promise, name string, got, want sum, asked func(p uint8) bool) {
	t.Helper()
	everySum(func(a, m, p uint8) {
		if !asked(p) {
			return
		}
		r, q := got(a, m, p)
		if wr, wq := want(a, m, p); r != wr || q != wq {
			t.Fatalf("%s: %s(%#x, %#x, %#x) = %#x, %#x, want %#x, %#x", promise, name, a, m, p, r, q, wr, wq)
		}
	})
}

func binary(p uint8) bool  { return p&api.FlagD == 0 }
func decimal(p uint8) bool { return p&api.FlagD != 0 }

func TestAdcBinary(t *testing.T)  { wantSum(t, "P3.2", "Adc", alu.Adc, toldAdc, binary) }
func TestAdcDecimal(t *testing.T) { wantSum(t, "P3.3", "Adc", alu.Adc, toldAdc, decimal) }
func TestSbcBinary(t *testing.T)  { wantSum(t, "P3.4", "Sbc", alu.Sbc, toldSbc, binary) }
func TestSbcDecimal(t *testing.T) { wantSum(t, "P3.4", "Sbc", alu.Sbc, toldSbc, decimal) }
func TestArrBinary(t *testing.T)  { wantSum(t, "P3.6", "Arr", alu.Arr, toldArr, binary) }
func TestArrDecimal(t *testing.T) { wantSum(t, "P3.6", "Arr", alu.Arr, toldArr, decimal) }

func TestExamples(t *testing.T) {
	for _, c := range []struct {
		promise, name string
		f             sum
		a, m, p       uint8
		r, q          uint8
	}{
		{"P3.2", "Adc", alu.Adc, 0x50, 0x50, 0x20, 0xa0, 0xe0},
		{"P3.2", "Adc", alu.Adc, 0xff, 0x01, 0x20, 0x00, 0x23},
		{"P3.3", "Adc", alu.Adc, 0x99, 0x01, 0x28, 0x00, 0xa9},
		{"P3.3", "Adc", alu.Adc, 0x0f, 0x00, 0x28, 0x15, 0x28},
		{"P3.4", "Sbc", alu.Sbc, 0x00, 0x01, 0x29, 0x99, 0xa8},
		{"P3.4", "Sbc", alu.Sbc, 0x50, 0xb0, 0x21, 0xa0, 0xe0},
		{"P3.6", "Arr", alu.Arr, 0xff, 0xff, 0x29, 0x55, 0xa9},
		{"P3.1", "Shift(ROL)", func(_, m, p uint8) (uint8, uint8) { return alu.Shift(api.OpROL, m, p) }, 0, 0x80, 0x21, 0x01, 0x21},
		{"P3.5", "Cmp", func(a, m, p uint8) (uint8, uint8) { return 0, alu.Cmp(a, m, p) }, 0x10, 0x20, 0x20, 0, 0xa0},
	} {
		if r, q := c.f(c.a, c.m, c.p); r != c.r || q != c.q {
			t.Errorf("%s: %s(%#x, %#x, %#x) = %#x, %#x, want %#x, %#x", c.promise, c.name, c.a, c.m, c.p, r, q, c.r, c.q)
		}
	}
	if got, want := alu.Do(api.OpSBX, api.Alu{A: 0xf0, X: 0x3c, M: 0x31}), (api.Alu{A: 0xf0, X: 0xff, P: 0x80, M: 0x31}); got != want {
		t.Errorf("P3.7: Do(SBX) = %+v, want %+v", got, want)
	}
}

// TestWorkedOut has answers that were worked out by hand, where digits are none and where a flag isn't the result's.
func TestWorkedOut(t *testing.T) {
	for _, c := range []struct {
		promise, name string
		f             sum
		a, m, p       uint8
		r, q          uint8
	}{
		{"P3.2", "Adc", alu.Adc, 0x7f, 0x00, 0x01, 0x80, 0xc0},
		{"P3.2", "Adc", alu.Adc, 0x80, 0xff, 0x00, 0x7f, 0x41},
		{"P3.2", "Adc", alu.Adc, 0xff, 0xff, 0xf7, 0xff, 0xb5},
		{"P3.3", "Adc", alu.Adc, 0x00, 0x00, 0x08, 0x00, 0x0a},
		{"P3.3", "Adc", alu.Adc, 0xff, 0x00, 0x09, 0x66, 0x0b},
		{"P3.3", "Adc", alu.Adc, 0xff, 0xff, 0x09, 0x55, 0x89},
		{"P3.3", "Adc", alu.Adc, 0x79, 0x00, 0x09, 0x80, 0xc8},
		{"P3.3", "Adc", alu.Adc, 0x80, 0x80, 0x08, 0x60, 0x4b},
		{"P3.4", "Sbc", alu.Sbc, 0x00, 0x00, 0x00, 0xff, 0x80},
		{"P3.4", "Sbc", alu.Sbc, 0x80, 0x01, 0x01, 0x7f, 0x41},
		{"P3.4", "Sbc", alu.Sbc, 0x00, 0x0f, 0x09, 0x9b, 0x88},
		{"P3.4", "Sbc", alu.Sbc, 0x00, 0x00, 0x08, 0x99, 0x88},
		{"P3.4", "Sbc", alu.Sbc, 0x00, 0xff, 0x09, 0xab, 0x08},
		{"P3.6", "Arr", alu.Arr, 0xff, 0x7f, 0x00, 0x3f, 0x40},
		{"P3.6", "Arr", alu.Arr, 0xff, 0xff, 0x01, 0xff, 0x81},
		{"P3.6", "Arr", alu.Arr, 0x05, 0xff, 0x08, 0x08, 0x08},
		{"P3.6", "Arr", alu.Arr, 0x04, 0xff, 0x08, 0x02, 0x08},
		{"P3.6", "Arr", alu.Arr, 0x50, 0xff, 0x08, 0x88, 0x49},
		{"P3.6", "Arr", alu.Arr, 0x40, 0xff, 0x09, 0xa0, 0xc8},
	} {
		if r, q := c.f(c.a, c.m, c.p); r != c.r || q != c.q {
			t.Errorf("%s: %s(%#x, %#x, %#x) = %#x, %#x, want %#x, %#x", c.promise, c.name, c.a, c.m, c.p, r, q, c.r, c.q)
		}
	}
}

func TestCmp(t *testing.T) {
	everySum(func(r, m, p uint8) {
		if got, want := alu.Cmp(r, m, p), toldCmp(r, m, p); got != want {
			t.Fatalf("P3.5: Cmp(%#x, %#x, %#x) = %#x, want %#x", r, m, p, got, want)
		}
	})
}

func TestNz(t *testing.T) {
	for r := range 256 {
		for p := range 256 {
			want := uint8(p) &^ 0x82
			if r >= 128 {
				want |= 0x80
			}
			if r == 0 {
				want |= 0x02
			}
			if got := alu.Nz(uint8(r), uint8(p)); got != want {
				t.Fatalf("P3.0: Nz(%#x, %#x) = %#x, want %#x", r, p, got, want)
			}
		}
	}
}

func TestShift(t *testing.T) {
	for _, op := range everyOp() {
		for m := range 256 {
			for p := range 256 {
				r, q := alu.Shift(op, uint8(m), uint8(p))
				if wr, wq := toldShift(op, uint8(m), uint8(p)); r != wr || q != wq {
					t.Fatalf("P3.1: Shift(%d %s, %#x, %#x) = %#x, %#x, want %#x, %#x", op, nameOf(op), m, p, r, q, wr, wq)
				}
			}
		}
	}
}

func TestShiftWorkedOut(t *testing.T) {
	for _, c := range []struct {
		op         api.Op
		m, p, r, q uint8
	}{
		{api.OpASL, 0x81, 0x00, 0x02, 0x01}, {api.OpASL, 0x40, 0x31, 0x80, 0xb0}, {api.OpASL, 0x80, 0x00, 0x00, 0x03},
		{api.OpLSR, 0x81, 0x80, 0x40, 0x01}, {api.OpLSR, 0x01, 0x00, 0x00, 0x03}, {api.OpLSR, 0x80, 0x01, 0x40, 0x00},
		{api.OpROL, 0x80, 0x00, 0x00, 0x03}, {api.OpROL, 0x7f, 0x01, 0xff, 0x80}, {api.OpROL, 0x80, 0x01, 0x01, 0x01},
		{api.OpROR, 0x01, 0x00, 0x00, 0x03}, {api.OpROR, 0x00, 0x01, 0x80, 0x80}, {api.OpROR, 0xfe, 0x7c, 0x7f, 0x7c},
		{api.OpSLO, 0x81, 0x83, 0x81, 0x83}, {api.OpALR, 0x00, 0xff, 0x00, 0xff}, {-1, 0x80, 0x01, 0x80, 0x01},
	} {
		if r, q := alu.Shift(c.op, c.m, c.p); r != c.r || q != c.q {
			t.Errorf("P3.1: Shift(%s, %#x, %#x) = %#x, %#x, want %#x, %#x", nameOf(c.op), c.m, c.p, r, q, c.r, c.q)
		}
	}
}
