package asm

import (
	"strconv"
	"strings"

	"tandem/api"
	"tandem/isa"
)

// Disassemble makes a source of bytes that lie at org: Assemble makes the same bytes of it. "" if they do not fit there.
func Disassemble(code []byte, org uint16) string {
	if len(code) == 0 || int(org)+len(code) > 65536 {
		return ""
	}
	var out strings.Builder
	out.WriteString("\t.org $" + hex(uint64(org), 4) + "\n")
	for at := 0; at < len(code); {
		text, n := next(code[at:], org+uint16(at))
		out.WriteString("\t" + text + "\n")
		at += n
	}
	return out.String()
}

// next is the line of the first bytes, and how many they are. A line that would not give them back is none.
func next(code []byte, pc uint16) (string, int) {
	in := isa.Decode(code[0])
	if best, e := isa.Encode(in.Op, in.Mode); e == api.OK && best == code[0] {
		if text, e := isa.Line(code, pc); e == api.OK {
			return text, in.Len
		}
	}
	return ".byte $" + hex(uint64(code[0]), 2), 1
}

// hex is a number in so many capital digits.
func hex(v uint64, n int) string {
	digits := strings.ToUpper(strconv.FormatUint(v, 16))
	return strings.Repeat("0", n-len(digits)) + digits
}
