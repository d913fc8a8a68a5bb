package console

import (
	"strconv"

	"tandem/api"
	"tandem/isa"
)

// lineOf is the instruction that code begins with, in words.
func lineOf(code []uint8, pc uint16) []string {
	text, _ := isa.Line(code, pc)
	return []string{placeOf(pc), text}
}

// regsOf is the CPU in words, the PC the first of them, and the cycles done.
func regsOf(s *api.State) []string {
	r := s.Cpu.Regs
	jam := 0
	if s.Cpu.Jam {
		jam = 1
	}
	return []string{
		"pc=" + hex4(r.PC), "a=" + hex2(r.A), "x=" + hex2(r.X), "y=" + hex2(r.Y), "s=" + hex2(r.S), "p=" + hex2(r.P),
		named("take", int(s.Cpu.Take)), named("jam", jam), named("cycle", s.Mem.Cycle),
	}
}

func accessWord(write bool) string {
	if write {
		return "W"
	}
	return "R"
}

func eventWord(kind uint8) string {
	switch kind {
	case api.EventBrk:
		return "BRK"
	case api.EventIrq:
		return "IRQ"
	case api.EventNmi:
		return "NMI"
	}
	return "RESET"
}

func placeOf(addr uint16) string { return hex4(addr) + ":" }

func cycleOf(cycle int) string { return "@" + strconv.Itoa(cycle) }

func named(name string, n int) string { return name + "=" + strconv.Itoa(n) }

func hex2(v uint8) string { return hex(uint32(v), 2) }

func hex4(v uint16) string { return hex(uint32(v), 4) }

func hex8(v uint32) string { return hex(v, 8) }

// hex is the last digits of a number, so many of them.
func hex(v uint32, size int) string {
	const digits = "0123456789ABCDEF"
	text := make([]byte, size)
	for i := range text {
		text[size-1-i] = digits[v>>(4*i)&15]
	}
	return string(text)
}
