package alu

import "tandem/api"

// Adc adds with carry, binary or decimal: the sum, the flags.
func Adc(a, m, p uint8) (uint8, uint8) {
	if p&api.FlagD != 0 {
		return adcDecimal(a, m, p)
	}
	s := int(a) + int(m) + int(p&api.FlagC)
	r := uint8(s)
	p = put(p, api.FlagC, s > 0xff)
	p = put(p, api.FlagV, leaves(a, m, r))
	return r, Nz(r, p)
}

// adcDecimal is Adc with D set. The part looks at the flags at different points of its way: Z ahead of both digits being put right, N and V between them, C behind them.
func adcDecimal(a, m, p uint8) (uint8, uint8) {
	carry := p & api.FlagC
	low := int(a&0x0f) + int(m&0x0f) + int(carry)
	if low >= 10 {
		low = (low+6)&0x0f + 0x10
	}
	s := int(a&0xf0) + int(m&0xf0) + low
	p = put(p, api.FlagN, s&0x80 != 0)
	p = put(p, api.FlagV, leaves(a, m, uint8(s)))
	p = put(p, api.FlagZ, a+m+carry == 0)
	if s >= 0xa0 {
		s += 0x60
	}
	return uint8(s), put(p, api.FlagC, s > 0xff)
}

// Sbc subtracts with borrow, binary or decimal: the difference, the flags.
func Sbc(a, m, p uint8) (uint8, uint8) {
	borrow := 1 - int(p&api.FlagC)
	d := int(a) - int(m) - borrow
	r := uint8(d)
	q := put(p, api.FlagC, d >= 0)
	// To take m away is to add its complement, with the same borrow.
	q = Nz(r, put(q, api.FlagV, leaves(a, ^m, r)))
	if p&api.FlagD != 0 {
		r = sbcDecimal(a, m, borrow)
	}
	return r, q
}

// sbcDecimal is what Sbc answers with D set; the flags know nothing of it.
func sbcDecimal(a, m uint8, borrow int) uint8 {
	low := int(a&0x0f) - int(m&0x0f) - borrow
	if low < 0 {
		low = (low-6)&0x0f - 0x10
	}
	s := int(a&0xf0) - int(m&0xf0) + low
	if s < 0 {
		s -= 0x60
	}
	return uint8(s)
}

// leaves tells whether a sum s of two bytes leaves the signed bytes: it has neither of their signs.
func leaves(a, m, s uint8) bool {
	return (a^s)&(m^s)&0x80 != 0
}

// Arr is the undocumented ARR: A, the flags.
func Arr(a, m, p uint8) (uint8, uint8) {
	t := a & m
	r := t>>1 | p&api.FlagC<<7
	if p&api.FlagD != 0 {
		return arrDecimal(t, r, p)
	}
	p = put(p, api.FlagC, r&0x40 != 0)
	p = put(p, api.FlagV, (r>>6^r>>5)&1 != 0)
	return r, Nz(r, p)
}

// arrDecimal is Arr with D set: t is what is turned, r is t turned, which has the C that was on top. The digits are put right by t's, not by r's.
func arrDecimal(t, r, p uint8) (uint8, uint8) {
	q := r
	if t&0x0f+t&0x01 > 5 {
		q = q&0xf0 | (q+6)&0x0f
	}
	carry := int(t&0xf0)+int(t&0x10) > 0x50
	if carry {
		q += 0x60
	}
	p = put(p, api.FlagV, (t^r)&0x40 != 0)
	p = put(p, api.FlagC, carry)
	return q, Nz(r, p)
}
