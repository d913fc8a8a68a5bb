package console_test

import (
	"fmt"
	"strings"
	"testing"
)

// 18.4: list tells instructions by their lengths, across $FFFF too.
func TestList(t *testing.T) {
	image := imageOf(0xa2, 0x05, 0x82, 0x07, 0x00, 0x6c, 0xff, 0x10, 0x0a, 0xb1, 0x80, 0x44, 0x33, 0xeb, 0x12, 0x9b, 0x34, 0x12, 0x30, 0x80, 0x12, 0x02)
	answers(t, "18.4", image, "list $c000 12", lines("C000: LDX #$05", "C002: NOP.82 #$07", "C004: BRK", "C005: JMP ($10FF)", "C008: ASL A", "C009: LDA ($80),Y",
		"C00B: NOP.44 $33", "C00D: SBC.EB #$12", "C00F: NOP.9B $1234,Y", "C012: BMI $BF94", "C014: JAM.12", "C015: JAM"))
	answers(t, "18.4", image, "list $8000 2\nlist 49153 2\nlist 0 2", lines("8000: LDX #$05", "8002: NOP.82 #$07", "C001: ORA $82", "C003: SLO $00", "0000: BRK", "0001: BRK"))
	image[16+0x3ffe], image[16+0x3fff] = 0xea, 0x4c // the last byte: JMP, with its operand at $0000
	answers(t, "18.4: across $FFFF", image, "list $fffe 4", lines("FFFE: NOP", "FFFF: JMP $0000", "0002: BRK", "0003: BRK"))
	answers(t, "18.4: across $FFFF", image, "list $fff8 7", lines("FFF8: BRK", "FFF9: BRK", "FFFA: BRK", "FFFB: CPY #$00", "FFFD: CPY #$EA", "FFFF: JMP $0000", "0002: BRK"))
	image[16+0x3fff] = 0xd0
	answers(t, "18.4: across $FFFF", image, "list $ffff 3", lines("FFFF: BNE $0001", "0001: BRK", "0002: BRK"))
	image[16+0x3ffe], image[16+0x3fff] = 0xad, 0x02
	answers(t, "18.4: across $FFFF", image, "list $fffe 2\nlist 65535 2", lines("FFFE: LDA $0002", "0001: BRK", "FFFF: JAM", "0000: BRK"))
	want := ""
	for i := range 32 {
		want += fmt.Sprintf("%04X: BRK\n", i)
	}
	answers(t, "18.4: 32 of them", image, "list 0 32", want)
}

// 18.3: peek tells bytes, across $FFFF too, and touches nothing.
func TestPeek(t *testing.T) {
	image := built(t, "start: lda #$80\n sta $2000\n lda #3\n sta $01\n sta $6000\n lda $2002\n lda #$21\n sta $2006\n sta $2006\n lda #$55\n sta $2007\n@on: jmp @on\nnmi:\nirq: rti\n")
	const look = "\nrun 60\nlog\npeek 0 4\npeek 2049 1\npeek $1801 1\npeek $6000 1\npeek $ffff 3\npeek $fff8 12\npeek $2000 8\npeek $3ff8 8\npeek $4000 32\n" +
		"peek $4016 1\npeek $4016 1\npeek $2002 1\npeek $2002 1\npeek $5ffe 4\npeek $7ffe 4\npeek 65535 64\npeek $c000 64\nlog\nregs"
	for _, engine := range engines {
		text := done(t, engine, image, engine+look)
		told, _, _ := toldPlay(image, engine+look)
		if text != told {
			t.Fatalf("18.3: peek: %s: %q, want %q", engine, text, told)
		}
		for _, line := range []string{"0000: 00 03 00 00", "0801: 03", "1801: 03", "6000: 03", "log 0"} {
			if !strings.Contains(text, "\n"+line+"\n") {
				t.Errorf("18.3: peek: %s: no line %q in %q", engine, line, text)
			}
		}
	}
	// The vertical blank's flag stays, though a read would clear it.
	text := done(t, "peek", cartL, "run 27400\npeek $2002 1\npeek $2002 1\npeek $2002 1")
	if got := only(text, "2002"); got != strings.Repeat("2002: 80\n", 3) {
		t.Errorf("18.3: peek: %q", got)
	}
}

// 18.4: list and peek look at the board as it is: banks that a program has switched.
func TestListBanks(t *testing.T) {
	image := make([]byte, 16+4*16384)
	copy(image, []byte{'N', 'E', 'S', 0x1a, 4, 0, 0x20}) // UxROM
	for bank := range 4 {
		image[16+16384*bank] = []byte{0xe8, 0xc8, 0xca, 0x88}[bank] // INX, INY, DEX, DEY
		image[16+16384*bank+0x3ffd] = 0xc0
	}
	copy(image[16+3*16384:], []byte{0xa9, 0x01, 0x8d, 0x00, 0x80, 0xa9, 0x02, 0x8d, 0x00, 0x80, 0x4c, 0x0a, 0xc0})
	for _, engine := range engines {
		text := done(t, engine, image, engine+"\nlist $8000 1\nrun 13\nlist $8000 1\nrun 6\nlist $8000 1\npeek $8000 1\nlist $bfff 2")
		if got := only(text, "8000:"); got != "8000: INX\n8000: INY\n8000: DEX\n8000: CA\n" || !strings.HasSuffix(text, "BFFF: BRK\nC000: LDA #$01\n") {
			t.Errorf("18.4: banks: %s: %q", engine, text)
		}
	}
}

// 18.4: where the board has no work RAM, list and peek see the open bus there, as the bus does.
func TestListWithoutWork(t *testing.T) {
	image := imageOf(0xa2, 0xea, 0x8e, 0x00, 0x60, 0x4c, 0x05, 0xc0) // LDX #$EA; STX $6000; JMP to itself
	answers(t, "18.4: work RAM", image, "run 13\npeek $6000 2\nlist $6000 2", "ran 13\n6000: EA 00\n6000: NOP\n6001: BRK\n")
	image[7] = 8 // a format in which the image says that there is none
	for _, engine := range engines {
		answers(t, "18.4: no work RAM", image, engine+"\nrun 13\npeek $6000 2\npeek $7fff 1\nlist $6000 2", engine+"\nran 13\n6000: EA EA\n7FFF: EA\n6000: NOP\n6001: NOP\n")
	}
}
