package xlate_test

import (
	"slices"
	"strings"
	"testing"

	"tandem/api"
)

// live asks for the flags of a block's Alus, as letters; a dash is none.
func live(t *testing.T, block, want string) {
	t.Helper()
	var got []string
	for _, flags := range flagsOf(made(t, 0x8000, 0, 64, append(codes(t, 0x8000, block), 0)...)) {
		s := letters(flags)
		if s == "" {
			s = "-"
		}
		got = append(got, s)
	}
	if !slices.Equal(got, strings.Fields(want)) {
		t.Errorf("P13.4: %s: flags %v, want %s", block, got, want)
	}
}

// Of a block's last instruction all flags are seen.
func TestLastFlags(t *testing.T) {
	for _, x := range []string{"LDA #$12: NZ", "ADC #$12: NVZC", "ASL A: NZC", "CLC: C", "SED: D", "CLV: V", "CMP #$12: NZC", "BIT $12: NVZ", "NOP: -", "TXS: -"} {
		block, want, _ := strings.Cut(x, ": ")
		live(t, block, want)
	}
}

// A flag is dead that another instruction sets ahead of whoever could see it.
func TestDeadFlags(t *testing.T) {
	live(t, "LDA #$12; LDX #$12", "- NZ")
	live(t, "LDA #$12; LDX #$12; LDY #$12", "- - NZ")
	live(t, "CMP #$12; LDX #$12", "C NZ")
	live(t, "LDX #$12; CMP #$12", "- NZC")
	live(t, "ADC #$12; ASL A", "V NZC")
	live(t, "BIT $12; ASL A", "V NZC")
	live(t, "CLC; SEC", "- C")
	live(t, "CLD; SED", "- D")
	live(t, "CLV; BIT $12", "- NVZ")
	live(t, "CLC; CLV; CLD; NOP", "C V D -")
	live(t, "LDA #$12; NOP; TXS; TAX", "- - - NZ")
	live(t, "LDA #$12; ADC $12", "- NVZC")
	live(t, "LDA #$12; PLA", "- NZ")
	live(t, "LDA #$12; LDA $1FFF", "- NZ")
	live(t, "LDA #$12; LDA $12,X", "- NZ")
	live(t, "LDA #$12; LDX $12,Y", "- NZ")
	live(t, "LDA #$12; ASL A; JMP $8000", "- NZC")
}

// A flag is seen by an instruction that needs it, even one that sets it too.
func TestNeededFlags(t *testing.T) {
	live(t, "ASL A; ROL A", "C NZC")
	live(t, "CLC; ADC #$12", "C NVZC")
	live(t, "CLD; ADC #$12", "D NVZC")
	live(t, "CMP #$12; SBC #$12", "C NVZC")
	live(t, "LDA #$12; CLC; ADC #$12", "- C NVZC")
	live(t, "LDA #$12; BNE $8000", "NZ")
	live(t, "ADC #$12; CLC; BVS $8000", "NVZ C")
	live(t, "CMP #$12; ROR A; LDA #$12", "C C NZ")
	live(t, "LDA #$12; ARR #$12; LDX #$12", "- VC NZ")
	live(t, "CMP #$12; CLC; ROL A", "- C NZC")
	live(t, "ADC #$12; SED; SBC #$12", "C D NVZC")
	live(t, "CMP #$12; PHP", "NZC -")
	live(t, "CMP #$12; LDA #$12; PHP; LDA #$12", "C NZ - NZ")
}

// All flags are seen where the block may be left ahead of an instruction.
func TestFlagsSeenAhead(t *testing.T) {
	for _, line := range []string{"LDA $2000", "LDA $FFFF", "LDA $0000,X", "LDA $0300,Y", "LDA ($12,X)", "LDA ($12),Y", "NOP.1C $0300,X", "NOP.9C $0300,X", "NOP.9B $0300,Y", "NOP.93 ($12),Y",
		"STA $2000", "STA $0300,X", "STA $0300,Y", "STA ($12,X)", "STA ($12),Y", "INC $2000", "INC $0300,X", "SLO ($12,X)", "SLO ($12),Y", "SLO $0300,Y", "RTS", "JMP ($0300)"} {
		b := made(t, 0x8000, 0, 64, append(codes(t, 0x8000, "CMP #$12; "+line), 0)...)
		if flags := flagsOf(b)[0]; flags != 0x83 || b.Insts != 2 {
			t.Errorf("P13.4: CMP #$12; %s: flags %02X, want NZC", line, flags)
		}
		b = made(t, 0x8000, 0, 64, append(codes(t, 0x8000, "CLD; CLC; BIT $12; "+line+"; "+"NOP"), 0)...)
		if flags := flagsOf(b)[:3]; !slices.Equal(flags, []uint8{0x08, 0x01, 0xc2}) {
			t.Errorf("P13.4: CLD; CLC; BIT $12; %s: flags % 02X, want D, C, NVZ", line, flags)
		}
	}
}

// All flags are seen where the block may be left behind an instruction; what it sets itself too.
func TestFlagsSeenBehind(t *testing.T) {
	for _, line := range []string{"STA $12", "STA $12,X", "STX $12,Y", "STA $1FFF", "SAX $12", "PHA", "PHP"} {
		live(t, "ADC #$12; "+line+"; ADC #$12", "NVZC - NVZC")
		live(t, "CLV; "+line+"; BIT $12", "V - NVZ")
	}
	live(t, "ADC #$12; INC $12; ADC #$12", "VC NZ NVZC")
	live(t, "CMP #$12; INC $12; LDA #$12", "C NZ NZ")
	live(t, "CMP #$12; SLO $12; CMP #$12", "- NZC NZC")
	live(t, "ADC #$12; RRA $12; ADC #$12", "C NVZC NVZC")
	live(t, "LDA #$12; JSR $8000", "NZ")
	live(t, "ADC #$12; DCP $12; NOP", "V NZC -")
}

// Nothing sees what only a window's end or a limit cuts off: the end of a block sees all flags, whatever comes behind.
func TestFlagsAtTheEnd(t *testing.T) {
	code := append(codes(t, 0x8000, "LDA #$12; LDX #$12; LDY #$12"), 0)
	for limit, want := range [][]uint8{{0x82}, {0, 0x82}, {0, 0, 0x82}} {
		if got := flagsOf(made(t, 0x8000, 0, limit+1, code...)); !slices.Equal(got, want) {
			t.Errorf("P13.4: limit %d: % 02X, want % 02X", limit+1, got, want)
		}
	}
	if got := flagsOf(made(t, 0x8000, 0, 64, code[:6]...)); !slices.Equal(got, []uint8{0, 0x82}) {
		t.Errorf("P13.4: cut code: % 02X", got)
	}
}

// No Alu has a flag that its operation does not set, nor a bit that no program sees.
func TestFlagsOfEveryOpcode(t *testing.T) {
	for code := range 256 {
		for _, behind := range [][]uint8{{0xea, 0xea}, {0x48, 0xea}, {0x69, 1, 0xea}, {0xad, 0, 0x60, 0xea}, {0xa9, 1, 0xf0, 0, 0xea}, {0x18, 0x2a, 0xea}} {
			whole := append([]uint8{uint8(code), 0x10, 0x02}[:lengthOf(uint8(code))], behind...)
			b := made(t, 0x8000, 0, 64, whole...)
			sameBlock(t, "every opcode's flags", b, toldBlock(0x8000, 0, whole, 64))
			for _, o := range b.Ops {
				if o.Flags&(api.FlagB|api.FlagU) != 0 {
					t.Errorf("P13.4: % X: %+v", whole, o)
				}
			}
		}
	}
}
