package alu_test

import (
	"math/rand"
	"testing"

	"tandem/alu"
	"tandem/api"
)

// digits is a number from 0 to 99 as two digits.
func digits(n int) uint8 { return uint8(n/10*16 + n%10) }

func TestDecimal(t *testing.T) {
	for x := range 100 {
		for y := range 100 {
			for _, p := range manyFlags {
				if !decimal(p) {
					continue
				}
				c := int(p & 1)
				s := x + y + c
				if r, q := alu.Adc(digits(x), digits(y), p); r != digits(s%100) || q&1 == 1 != (s >= 100) {
					t.Fatalf("P3.11: %d + %d + %d: %#x, %#x", x, y, c, r, q)
				}
				d := x - y - 1 + c
				if r, q := alu.Sbc(digits(x), digits(y), p); r != digits(mod(d, 100)) || q&1 == 1 != (x >= y+1-c) {
					t.Fatalf("P3.11: %d - %d - %d: %#x, %#x", x, y, 1-c, r, q)
				}
			}
		}
	}
}

// anyNumber is a number by its digits, the lowest first.
func anyNumber(r *rand.Rand, length int) []int {
	l := make([]int, length)
	for i := range l {
		l[i] = []int{0, 9, r.Intn(10)}[r.Intn(3)]
	}
	return l
}

// pairUp is digits as bytes of two.
func pairUp(l []int) []uint8 {
	var out []uint8
	for i := 0; i < len(l); i += 2 {
		out = append(out, uint8(16*l[i+1]+l[i]))
	}
	return out
}

// byHand adds numbers digit by digit, or takes the second from the first one (sign -1): the digits, what is left over.
func byHand(x, y []int, sign, over int) ([]int, int) {
	out := make([]int, len(x))
	for i := range x {
		s := x[i] + sign*(y[i]+over)
		out[i] = mod(s, 10)
		over = one(s < 0 || s > 9)
	}
	return out, over
}

func TestDecimalChains(t *testing.T) {
	r := rand.New(rand.NewSource(311))
	for range 3000 {
		length := 2 * (1 + r.Intn(30))
		x, y := anyNumber(r, length), anyNumber(r, length)
		over := r.Intn(2)
		for _, c := range []struct {
			name        string
			f           sum
			sign, carry int
		}{{"Adc", alu.Adc, 1, over}, {"Sbc", alu.Sbc, -1, 1 - over}} {
			want, left := byHand(x, y, c.sign, over)
			p := 0x28 | uint8(c.carry)
			var got []uint8
			for i, b := range pairUp(x) {
				var v uint8
				v, p = c.f(b, pairUp(y)[i], p)
				got = append(got, v)
			}
			carry := left
			if c.sign < 0 {
				carry = 1 - left
			}
			if string(got) != string(pairUp(want)) || int(p&1) != carry {
				t.Fatalf("P3.11: a chain of %s: %v, %v, over %d: %x, C %d, want %v, %d", c.name, x, y, over, got, p&1, want, carry)
			}
		}
	}
}

func TestSigned(t *testing.T) {
	outside := func(n int) bool { return n < -128 || n > 127 }
	everySum(func(a, m, p uint8) {
		if decimal(p) {
			return
		}
		x, y, c := int(int8(a)), int(int8(m)), int(p&1)
		if _, q := alu.Adc(a, m, p); q&api.FlagV != 0 != outside(x+y+c) {
			t.Fatalf("P3.11: %d + %d + %d: P %#x", x, y, c, q)
		}
		_, q := alu.Sbc(a, m, p)
		if q&api.FlagV != 0 != outside(x-y-(1-c)) {
			t.Fatalf("P3.11: %d - %d - %d: P %#x", x, y, 1-c, q)
		}
		n, v := q&api.FlagN != 0, q&api.FlagV != 0
		if c == 1 && (n != v) != (x < y) {
			t.Fatalf("P3.11: %d below %d: P %#x", x, y, q)
		}
	})
}

func TestNineTurns(t *testing.T) {
	for _, op := range []api.Op{api.OpROL, api.OpROR} {
		for m := range 256 {
			for p := range 256 {
				v, q := uint8(m), uint8(p)
				for range 9 {
					v, q = alu.Shift(op, v, q)
				}
				if v != uint8(m) || q&1 != uint8(p)&1 {
					t.Fatalf("P3.11: nine %s of %#x, %#x: %#x, %#x", nameOf(op), m, p, v, q)
				}
			}
		}
	}
}
