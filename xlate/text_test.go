package xlate_test

import (
	"math"
	"slices"
	"strings"
	"testing"

	"tandem/api"
	"tandem/xlate"
)

// Text, line by line.
func TestText(t *testing.T) {
	block := "LDA $12; ADC ($FE),Y; STA $1234,X; CLC; ROL A; LDX #$00; SLO $0300; NOP.9C $FFFF,X; PLA; PHP; SED; BEQ $9F10"
	b := made(t, 0x9f00, 127, 64, append(codes(t, 0x9f00, block), 0)...)
	want := []string{
		"block $9F00 tag 127 insts 12 cycles 41 43",
		"0 +0 addr LDA $0012", "0 +0 load LDA", "0 +0 alu LDA NZ",
		"1 +3 addr ADC $00FE", "1 +3 load ADC", "1 +3 alu ADC NVZC",
		"2 +8 addr STA $1234", "2 +8 alu STA", "2 +8 store STA",
		"3 +13 alu CLC C",
		"4 +15 alu ROL",
		"5 +17 const LDX $0000", "5 +17 alu LDX",
		"6 +19 addr SLO $0300", "6 +19 load SLO", "6 +19 alu SLO NZC", "6 +19 store SLO",
		"7 +25 addr NOP $FFFF", "7 +25 load NOP",
		"8 +30 pull PLA", "8 +30 alu PLA NZ",
		"9 +34 alu PHP", "9 +34 push PHP",
		"10 +37 alu SED D",
		"11 +39 branch BEQ $9F10",
	}
	if l := lines(xlate.Text(b)); !slices.Equal(l, want) {
		t.Errorf("P13.9:\n%s\nwant\n%s", strings.Join(l, "\n"), strings.Join(want, "\n"))
	}
	for line, want := range map[string]string{"JSR $00FF": "0 +0 call JSR $00FF", "RTS": "0 +0 return RTS", "JMP ($ABCD)": "0 +0 via JMP $ABCD", "JMP $ABCD": "0 +0 jump JMP $ABCD"} {
		if l := lines(xlate.Text(made(t, 0x8000, 0, 1, append(codes(t, 0x8000, line), 0)...))); len(l) != 2 || l[1] != want {
			t.Errorf("P13.9: %s: %q, want %q", line, l, want)
		}
	}
}

// The first line alone, of an empty block, with each tag.
func TestTextOfEmptyBlocks(t *testing.T) {
	for _, c := range []struct {
		pc   uint16
		tag  int
		want string
	}{
		{0x0000, api.TagRam, "block $0000 tag 128 insts 0 cycles 0 0\n"}, {0x1fff, api.TagRam, "block $1FFF tag 128 insts 0 cycles 0 0\n"},
		{0x6abc, api.TagWork, "block $6ABC tag 129 insts 0 cycles 0 0\n"}, {0xffff, 7, "block $FFFF tag 7 insts 0 cycles 0 0\n"}, {0x8000, 0, "block $8000 tag 0 insts 0 cycles 0 0\n"},
	} {
		if s := xlate.Text(made(t, c.pc, c.tag, 1)); s != c.want {
			t.Errorf("P13.9: %q, want %q", s, c.want)
		}
	}
}

// Numbers that no block of Translate has, in the lines that the chapter lays down for them.
func TestTextOfAnyNumbers(t *testing.T) {
	b := api.Block{PC: 0xabcd, Tag: -1, Insts: math.MaxInt, Least: math.MinInt, Most: 1 << 40, Ops: []api.Micro{{Kind: api.MicroAlu, Op: api.OpADC, Flags: 0xff, Inst: -5, Cycle: 100000}}}
	want := []string{"block $ABCD tag -1 insts 9223372036854775807 cycles -9223372036854775808 1099511627776", "-5 +100000 alu ADC NVDIZC"}
	if l := lines(xlate.Text(b)); !slices.Equal(l, want) {
		t.Errorf("P13.9: %q, want %q", l, want)
	}
	for flags := range 256 {
		b.Ops[0].Flags = uint8(flags)
		want := strings.TrimSpace("-5 +100000 alu ADC " + letters(uint8(flags)))
		if l := lines(xlate.Text(b)); strings.TrimSpace(l[1]) != want {
			t.Errorf("P13.9: flags %02X: %q, want %q", flags, l[1], want)
		}
	}
}
