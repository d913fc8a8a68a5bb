package isa

import "testing"

// The function and the table tell the opcodes in two ways: they must not drift apart.
func TestRowsAreTheTable(t *testing.T) {
	for i := range 256 {
		code := uint8(i)
		if got := rowOf(code); got != table[code] {
			t.Errorf("P4.1: the row of %02x is %v by the function, %v by the table", code, got, table[code])
		}
		if op, mode := opOf(code), modeOf(code); op != table[code].op || mode != table[code].mode {
			t.Errorf("P4.1: of %02x the function says %d, %d, the table %d, %d", code, op, mode, table[code].op, table[code].mode)
		}
	}
	if n := len(table); n != 256 {
		t.Errorf("P4.1: the table has %d rows", n)
	}
}
