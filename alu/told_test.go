package alu_test

import "tandem/api"

// The chapter's words a second time, with whole numbers and flags by their names.

// flags is P bit by bit.
type flags struct{ n, v, u, b, d, i, z, c bool }

func open(p uint8) flags {
	bit := func(k int) bool { return int(p)/k%2 == 1 }
	return flags{n: bit(128), v: bit(64), u: bit(32), b: bit(16), d: bit(8), i: bit(4), z: bit(2), c: bit(1)}
}

func (f flags) shut() uint8 {
	p := 0
	for k, on := range []bool{f.c, f.z, f.i, f.d, f.b, f.u, f.v, f.n} {
		if on {
			p += 1 << k
		}
	}
	return uint8(p)
}

// one is 1 for a flag that is set.
func one(on bool) int {
	if on {
		return 1
	}
	return 0
}

// mod is the rest from 0 to n - 1, of a negative v too.
func mod(v, n int) int { return ((v % n) + n) % n }

// bitOf is a bit of a whole number that isn't negative.
func bitOf(v, k int) bool { return v>>k&1 == 1 }

func (f *flags) nz(v int) { f.n, f.z = bitOf(v, 7), v == 0 }

func toldShift(op api.Op, m8, p uint8) (uint8, uint8) {
	m, f := int(m8), open(p)
	r, was := 0, one(f.c)
	switch op {
	case api.OpASL:
		r, f.c = mod(2*m, 256), bitOf(m, 7)
	case api.OpLSR:
		r, f.c = m/2, bitOf(m, 0)
	case api.OpROL:
		r, f.c = mod(2*m+was, 256), bitOf(m, 7)
	case api.OpROR:
		r, f.c = m/2+128*was, bitOf(m, 0)
	default:
		return m8, p
	}
	f.nz(r)
	return uint8(r), f.shut()
}

func toldAdc(a8, m8, p uint8) (uint8, uint8) {
	a, m, f := int(a8), int(m8), open(p)
	c := one(f.c)
	if !f.d {
		s := a + m + c
		r := mod(s, 256)
		f.c = s >= 256
		f.v = bitOf(a, 7) == bitOf(m, 7) && bitOf(r, 7) != bitOf(a, 7)
		f.nz(r)
		return uint8(r), f.shut()
	}
	al := mod(a, 16) + mod(m, 16) + c
	if al >= 10 {
		al = mod(al+6, 16) + 16
	}
	s := 16*(a/16) + 16*(m/16) + al
	f.n = bitOf(s, 7)
	f.v = bitOf(a, 7) == bitOf(m, 7) && bitOf(s, 7) != bitOf(a, 7)
	f.z = mod(a+m+c, 256) == 0
	if s >= 160 {
		s += 96
	}
	f.c = s >= 256
	return uint8(mod(s, 256)), f.shut()
}

func toldSbc(a8, m8, p uint8) (uint8, uint8) {
	a, m, f := int(a8), int(m8), open(p)
	c := one(f.c)
	d := a - m - 1 + c
	low := mod(d, 256)
	f.c = d >= 0
	f.v = bitOf(a, 7) != bitOf(m, 7) && bitOf(low, 7) != bitOf(a, 7)
	f.nz(low)
	if !f.d {
		return uint8(low), f.shut()
	}
	al := mod(a, 16) - mod(m, 16) - 1 + c
	if al < 0 {
		al = mod(al-6, 16) - 16
	}
	s := 16*(a/16) - 16*(m/16) + al
	if s < 0 {
		s -= 96
	}
	return uint8(mod(s, 256)), f.shut()
}

func toldCmp(r, m, p uint8) uint8 {
	f := open(p)
	f.c = r >= m
	f.nz(mod(int(r)-int(m), 256))
	return f.shut()
}

func toldArr(a, m, p uint8) (uint8, uint8) {
	t, f := int(a&m), open(p)
	r := t/2 + 128*one(f.c)
	if !f.d {
		f.nz(r)
		f.c = bitOf(r, 6)
		f.v = bitOf(r, 6) != bitOf(r, 5)
		return uint8(r), f.shut()
	}
	f.n = f.c
	f.z = r == 0
	f.v = bitOf(t, 6) != bitOf(r, 6)
	q := r
	if mod(t, 16)+mod(t, 2) > 5 {
		q = 16*(q/16) + mod(q+6, 16)
	}
	f.c = 16*(t/16)+t&16 > 80
	if f.c {
		q = mod(q+96, 256)
	}
	return uint8(q), f.shut()
}

// toldNz is NZ of v.
func toldNz(v, p uint8) uint8 {
	f := open(p)
	f.nz(int(v))
	return f.shut()
}

// toldFlag is P with one flag changed by name.
func toldFlag(p uint8, change func(f *flags)) uint8 {
	f := open(p)
	change(&f)
	return f.shut()
}

// toldPush is P as it is pushed.
func toldPush(p uint8) uint8 {
	return toldFlag(p, func(f *flags) { f.b, f.u = true, true })
}

// toldDo is the table of P3.7, row by row; what isn't there does nothing.
var toldDo = map[string]func(r *api.Alu){
	"LDA": func(r *api.Alu) { r.A = r.M; r.P = toldNz(r.M, r.P) },
	"LDX": func(r *api.Alu) { r.X = r.M; r.P = toldNz(r.M, r.P) },
	"LDY": func(r *api.Alu) { r.Y = r.M; r.P = toldNz(r.M, r.P) },
	"LAX": func(r *api.Alu) { r.A = r.M; r.X = r.M; r.P = toldNz(r.M, r.P) },
	"LAS": func(r *api.Alu) { v := r.M & r.S; r.A = v; r.X = v; r.S = v; r.P = toldNz(v, r.P) },
	"STA": func(r *api.Alu) { r.M = r.A },
	"STX": func(r *api.Alu) { r.M = r.X },
	"STY": func(r *api.Alu) { r.M = r.Y },
	"SAX": func(r *api.Alu) { r.M = r.A & r.X },
	"TAX": func(r *api.Alu) { r.X = r.A; r.P = toldNz(r.A, r.P) },
	"TAY": func(r *api.Alu) { r.Y = r.A; r.P = toldNz(r.A, r.P) },
	"TXA": func(r *api.Alu) { r.A = r.X; r.P = toldNz(r.X, r.P) },
	"TYA": func(r *api.Alu) { r.A = r.Y; r.P = toldNz(r.Y, r.P) },
	"TSX": func(r *api.Alu) { r.X = r.S; r.P = toldNz(r.S, r.P) },
	"TXS": func(r *api.Alu) { r.S = r.X },
	"AND": func(r *api.Alu) { r.A = r.A & r.M; r.P = toldNz(r.A, r.P) },
	"ORA": func(r *api.Alu) { r.A = r.A | r.M; r.P = toldNz(r.A, r.P) },
	"EOR": func(r *api.Alu) { r.A = r.A ^ r.M; r.P = toldNz(r.A, r.P) },
	"BIT": func(r *api.Alu) {
		r.P = toldFlag(r.P, func(f *flags) { f.n, f.v, f.z = bitOf(int(r.M), 7), bitOf(int(r.M), 6), r.A&r.M == 0 })
	},
	"ADC": func(r *api.Alu) { r.A, r.P = toldAdc(r.A, r.M, r.P) },
	"SBC": func(r *api.Alu) { r.A, r.P = toldSbc(r.A, r.M, r.P) },
	"ARR": func(r *api.Alu) { r.A, r.P = toldArr(r.A, r.M, r.P) },
	"CMP": func(r *api.Alu) { r.P = toldCmp(r.A, r.M, r.P) },
	"CPX": func(r *api.Alu) { r.P = toldCmp(r.X, r.M, r.P) },
	"CPY": func(r *api.Alu) { r.P = toldCmp(r.Y, r.M, r.P) },
	"INC": func(r *api.Alu) { r.M = uint8(mod(int(r.M)+1, 256)); r.P = toldNz(r.M, r.P) },
	"DEC": func(r *api.Alu) { r.M = uint8(mod(int(r.M)-1, 256)); r.P = toldNz(r.M, r.P) },
	"INX": func(r *api.Alu) { r.X = uint8(mod(int(r.X)+1, 256)); r.P = toldNz(r.X, r.P) },
	"INY": func(r *api.Alu) { r.Y = uint8(mod(int(r.Y)+1, 256)); r.P = toldNz(r.Y, r.P) },
	"DEX": func(r *api.Alu) { r.X = uint8(mod(int(r.X)-1, 256)); r.P = toldNz(r.X, r.P) },
	"DEY": func(r *api.Alu) { r.Y = uint8(mod(int(r.Y)-1, 256)); r.P = toldNz(r.Y, r.P) },
	"ASL": func(r *api.Alu) { r.M, r.P = toldShift(api.OpASL, r.M, r.P) },
	"LSR": func(r *api.Alu) { r.M, r.P = toldShift(api.OpLSR, r.M, r.P) },
	"ROL": func(r *api.Alu) { r.M, r.P = toldShift(api.OpROL, r.M, r.P) },
	"ROR": func(r *api.Alu) { r.M, r.P = toldShift(api.OpROR, r.M, r.P) },
	"SLO": func(r *api.Alu) {
		r.M, r.P = toldShift(api.OpASL, r.M, r.P)
		r.A |= r.M
		r.P = toldNz(r.A, r.P)
	},
	"RLA": func(r *api.Alu) {
		r.M, r.P = toldShift(api.OpROL, r.M, r.P)
		r.A &= r.M
		r.P = toldNz(r.A, r.P)
	},
	"SRE": func(r *api.Alu) {
		r.M, r.P = toldShift(api.OpLSR, r.M, r.P)
		r.A ^= r.M
		r.P = toldNz(r.A, r.P)
	},
	"RRA": func(r *api.Alu) {
		r.M, r.P = toldShift(api.OpROR, r.M, r.P)
		r.A, r.P = toldAdc(r.A, r.M, r.P)
	},
	"DCP": func(r *api.Alu) { r.M = uint8(mod(int(r.M)-1, 256)); r.P = toldCmp(r.A, r.M, r.P) },
	"ISC": func(r *api.Alu) { r.M = uint8(mod(int(r.M)+1, 256)); r.A, r.P = toldSbc(r.A, r.M, r.P) },
	"ANC": func(r *api.Alu) {
		r.A = r.A & r.M
		r.P = toldFlag(toldNz(r.A, r.P), func(f *flags) { f.c = bitOf(int(r.A), 7) })
	},
	"ALR": func(r *api.Alu) { r.A, r.P = toldShift(api.OpLSR, r.A&r.M, r.P) },
	"SBX": func(r *api.Alu) {
		t := int(r.A & r.X)
		r.X = uint8(mod(t-int(r.M), 256))
		r.P = toldFlag(toldNz(r.X, r.P), func(f *flags) { f.c = t >= int(r.M) })
	},
	"CLC": func(r *api.Alu) { r.P = toldFlag(r.P, func(f *flags) { f.c = false }) },
	"CLD": func(r *api.Alu) { r.P = toldFlag(r.P, func(f *flags) { f.d = false }) },
	"CLI": func(r *api.Alu) { r.P = toldFlag(r.P, func(f *flags) { f.i = false }) },
	"CLV": func(r *api.Alu) { r.P = toldFlag(r.P, func(f *flags) { f.v = false }) },
	"SEC": func(r *api.Alu) { r.P = toldFlag(r.P, func(f *flags) { f.c = true }) },
	"SED": func(r *api.Alu) { r.P = toldFlag(r.P, func(f *flags) { f.d = true }) },
	"SEI": func(r *api.Alu) { r.P = toldFlag(r.P, func(f *flags) { f.i = true }) },
	"PHA": func(r *api.Alu) { r.M = r.A },
	"PHP": func(r *api.Alu) { r.M = toldPush(r.P) },
	"PLA": func(r *api.Alu) { r.A = r.M; r.P = toldNz(r.M, r.P) },
	"PLP": func(r *api.Alu) { r.P = toldFlag(r.M, func(f *flags) { f.u, f.b = true, false }) },
	"RTI": func(r *api.Alu) { r.P = toldFlag(r.M, func(f *flags) { f.u, f.b = true, false }) },
	"BRK": func(r *api.Alu) {
		r.M = toldPush(r.P)
		r.P = toldFlag(r.P, func(f *flags) { f.i = true })
	},
}
