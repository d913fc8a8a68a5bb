package asm_test

import (
	"fmt"
	"strings"
	"testing"

	"tandem/asm"
)

func TestNamesGivenTwice(t *testing.T) {
	refuses(t, "5.4", []bad{
		{"n = 1\nn = 1", 2, 1, asm.ErrTwice}, {"n: nop\nn = 1", 2, 1, asm.ErrTwice}, {"n = 1\n  n: nop", 2, 3, asm.ErrTwice}, {"n:\nn:", 2, 1, asm.ErrTwice}, {"n: n = 1", 1, 4, asm.ErrTwice}, {"@x:\n@x:", 2, 1, asm.ErrTwice}, {"a1:\n@x:\n@x:\nb1:", 3, 1, asm.ErrTwice}, {"n = 5\na1:\n m: n = 6", 3, 5, asm.ErrTwice}, {"a1:\nb1 = 1\na1: b1 = 2", 3, 1, asm.ErrTwice},
		{"@x:\nn = 1\n@x:", 3, 1, asm.ErrTwice}, // only a label begins a stretch
		{"@x: nop\nm = 3\n@y: nop\n@x: nop", 4, 1, asm.ErrTwice},
	})
	gives(t, "5.4", []good{
		{"@x: .byte @x\na1:\n@x: .byte @x\nb1:\n@x: .byte @x", "00 01 02"}, {"a1: .byte a1\nA1: .byte A1\na_1: .byte a_1", "00 01 02"}, {"x1 = 1\n@x1: .byte x1, @x1", "01 00"},
	})
}

func TestLocalNames(t *testing.T) {
	gives(t, "5.4", []good{
		{".byte @x\n@x:", "01"}, {"a1: .byte @x, @y\n@x: nop\n@y: nop", "02 03 EA EA"}, {"@x: nop\n.byte @x\na1: .byte @x\n@x: .byte @x", "EA 00 03 03"}, {"a1:\n@x: nop\nn = @x + 1\n bne @x\n.byte n", "EA D0 FD 01"}, {"a1: nop\n@x: nop\nbne @y\nbne @x\n@y: rts", "EA EA D0 02 D0 FB 60"},
	})
	refuses(t, "5.4", []bad{
		{"@x: nop\na1: .byte @x", 2, 11, asm.ErrUnknown}, {".byte @x\na1:\n@x:", 1, 7, asm.ErrUnknown}, {"a1:\n@x: nop\nb1:\n.byte 1,@x\nc1:\n@x:", 4, 9, asm.ErrUnknown}, {"n = @x\n@x:", 1, 5, asm.ErrUnknown}, {"@x:\na1: n = @x", 2, 9, asm.ErrUnknown}, {"a1: lda #@a1", 1, 10, asm.ErrUnknown}, {"@x: .byte x1", 1, 11, asm.ErrUnknown},
	})
}

func TestWhatIsKnownWhen(t *testing.T) {
	gives(t, "5.4", []good{
		{"n = 5\nm = n+1\n.byte m", "06"}, {".byte m\nm = 6", "06"}, {"a1: n = a1\n.byte n", "00"}, {"nop\na1: .res a1, 7\n.byte 9", "EA 07 09"},
	})
	refuses(t, "5.4", []bad{
		{"n = m\nm = 1", 1, 5, asm.ErrUnknown}, {"n = n", 1, 5, asm.ErrUnknown}, {"n = 1\nn = n", 2, 1, asm.ErrTwice}, {".org m\nm = 1", 1, 6, asm.ErrUnknown}, {".bank m\nm = 1", 1, 7, asm.ErrUnknown}, {".res m\nm = 1", 1, 6, asm.ErrUnknown}, {".align m\nm = 1", 1, 8, asm.ErrUnknown}, {".charmap 'a', m\nm = 1", 1, 15, asm.ErrUnknown}, {".if m\n.endif\nm = 1", 1, 5, asm.ErrUnknown},
		{".inesprg m\nm = 1", 1, 10, asm.ErrUnknown}, {".ineschr 1+m\nm = 1", 1, 12, asm.ErrUnknown}, {".inesmap m\nm = 1", 1, 10, asm.ErrUnknown}, {".inesmir m\nm = 1", 1, 10, asm.ErrUnknown}, {"lda #m", 1, 6, asm.ErrUnknown}, {"lda m", 1, 5, asm.ErrUnknown}, {"bne m", 1, 5, asm.ErrUnknown}, {".byte m", 1, 7, asm.ErrUnknown}, {".word 1,m", 1, 9, asm.ErrUnknown}, {".res 1,m", 1, 8, asm.ErrUnknown}, {"lda (m),y", 1, 6, asm.ErrUnknown}, {"lda #lda", 1, 6, asm.ErrUnknown},
	})
	gives(t, "5.4", []good{{".res 2,m\n.align 4,m\n.word m\nlda #m\nlda (m),y\nlda (m,x)\njmp (m)\nbne m\nm = 3", "03 03 03 03 03 00 A9 03 B1 03 A1 03 6C 03 00 D0 F2"}})
}

// Each line has a fault of its own; what is told is the first by the order of the passes.
func TestOrderOfFaults(t *testing.T) {
	refuses(t, "5.4", []bad{
		// the first pass of all lines goes ahead of the second of any
		{"lda #300\nfoo", 2, 1, asm.ErrName}, {"bne 1/0\nfoo", 2, 1, asm.ErrName}, {"lda 1/0\nfoo", 1, 6, asm.ErrRange}, {".byte 1/0\nn = n", 2, 5, asm.ErrUnknown}, {"lda zz\n.org 65535\n.word 1", 3, 1, asm.ErrOver}, {".byte 300\n.if 1", 2, 1, asm.ErrDirective}, {"lda (1/0),y\nlda 1/0", 2, 6, asm.ErrRange}, {"lda #1/0\njmp 1/0,x\nfoo", 2, 5, asm.ErrMode},
		{"jmp 1/0\nfoo", 1, 6, asm.ErrRange}, {"jsr 1/0\nfoo", 1, 6, asm.ErrRange}, {"stx 1/0,y\nfoo", 1, 6, asm.ErrRange}, {"sta 1<<31,x\nfoo", 1, 6, asm.ErrRange}, {"jmp (1/0)\nfoo", 2, 1, asm.ErrName}, {"lda 'é'\nfoo", 1, 5, asm.ErrRange}, {"jmp mm+1/0\nfoo", 2, 1, asm.ErrName}, {"jmp 1/0+mm\nfoo", 1, 6, asm.ErrRange}, {"jmp mm+1/0\nmm = 1", 1, 9, asm.ErrRange}, {"jmp 65536\nfoo", 2, 1, asm.ErrName}, {"lda -1\nfoo", 2, 1, asm.ErrName},
		// within a line: tokens, form, names given twice, modes, values, places
		{"lda: foo ?", 1, 10, asm.ErrToken}, {"n = 1\nn: foo", 2, 4, asm.ErrName}, {"n = 1\nn: lda 1 1", 2, 10, asm.ErrToken}, {"n = 1\nn: .foo", 2, 4, asm.ErrDirective}, {"n = 1\nn: sta #1", 2, 1, asm.ErrTwice}, {"n = 1\nn: lda 1/0", 2, 1, asm.ErrTwice}, {"n = 1\nn = mm", 2, 1, asm.ErrTwice}, {"n = 1\nm: n = mm", 2, 4, asm.ErrTwice}, {"n: n = mm", 1, 4, asm.ErrTwice}, {"n = 1\nn: .else", 2, 1, asm.ErrTwice},
		{"jmp 1/0,x", 1, 5, asm.ErrMode}, {"sta #1/0", 1, 5, asm.ErrMode}, {"nop\n.org 0\nsta #1", 3, 5, asm.ErrMode}, {"nop\n.org 0\nlda 1/0", 3, 6, asm.ErrRange}, {"nop\n.org 0\n.byte \"é\"", 3, 7, asm.ErrRange}, {"nop\n.org 0\n.byte 'é'", 3, 1, asm.ErrOver}, {"nop\n.org 0\na1: lda #300", 3, 5, asm.ErrOver}, {"nop\n.org 0\nlda mm", 3, 1, asm.ErrOver}, {"nop\n.org 0\n.res 1/0", 3, 7, asm.ErrRange}, {"nop\n.org 0\n.res 1,1/0", 3, 1, asm.ErrOver},
		// of the second pass: from the first line on, from the left
		{"lda #300\nlda #mm", 1, 5, asm.ErrRange}, {"lda #mm\nlda #300", 1, 6, asm.ErrUnknown}, {".byte 1,256,mm", 1, 9, asm.ErrRange}, {".byte 1,mm,256", 1, 9, asm.ErrUnknown}, {".word 1/0,65536", 1, 8, asm.ErrRange}, {".word 65536,1/0", 1, 7, asm.ErrRange}, {"lda #mm/0", 1, 6, asm.ErrUnknown},
		{"lda #1\n\n ; none\n\tbne 5/0\nfoo: .byte 256", 4, 7, asm.ErrRange},
	})
}

func TestBoundsOfOperands(t *testing.T) {
	gives(t, "5.4", []good{
		{"lda #-128\nlda #255\nlda #-1\nlda #0", "A9 80 A9 FF A9 FF A9 00"}, {"lda (255),y\nlda (0,x)\nstx 255,y\nstx 0,y", "B1 FF A1 00 96 FF 96 00"}, {"lda 65535\nlda 0\njmp 0\njmp (65535)\nlda 65535,x\nlda 0,y", "AD FF FF A5 00 4C 00 00 6C FF FF BD FF FF B9 00 00"},
	})
	refuses(t, "5.4", []bad{
		{"lda #-129", 1, 5, asm.ErrRange}, {"lda #256", 1, 5, asm.ErrRange}, {"lda  # 256", 1, 6, asm.ErrRange}, {"lda (256),y", 1, 5, asm.ErrRange}, {"lda (-1),y", 1, 5, asm.ErrRange}, {"lda (256,x)", 1, 5, asm.ErrRange}, {"lda (-1,x)", 1, 5, asm.ErrRange}, {"stx 256,y", 1, 5, asm.ErrRange}, {"stx -1,y", 1, 5, asm.ErrRange}, {"lda 65536", 1, 5, asm.ErrRange}, {"lda -1", 1, 5, asm.ErrRange}, {"jmp (65536)", 1, 5, asm.ErrRange}, {"jmp (-1)", 1, 5, asm.ErrRange}, {"lda -1,x", 1, 5, asm.ErrRange}, {"lda 65536,y", 1, 5, asm.ErrRange}, {"bne 65536", 1, 5, asm.ErrRange}, {"bne -1", 1, 5, asm.ErrRange}, {"bne  1-2", 1, 6, asm.ErrRange},
	})
}

func TestBranches(t *testing.T) {
	for _, at := range []int{0, 1, 2, 126, 128, 130, 0x1000, 0x7ffe, 0x8000, 65278, 65406, 65407, 65408, 65533, 65534} {
		for d := -140; d <= 140; d++ {
			target := (at + 2 + d + 65536) % 65536
			src := fmt.Sprintf(".org %d\n bcs %d", at, target)
			if d < -128 || d > 127 {
				refuses(t, "5.4", []bad{{src, 2, 6, asm.ErrFar}})
			} else {
				gives(t, "5.4", []good{{src, fmt.Sprintf("B0 %02X", d&255)}})
			}
		}
	}
	refuses(t, "5.4", []bad{{"bne 32770", 1, 5, asm.ErrFar}, {"bne 32769", 1, 5, asm.ErrFar}, {".org 65535\nbne 0", 2, 1, asm.ErrOver}, {"bne  far\n.res 128\nfar:", 1, 6, asm.ErrFar}})
	gives(t, "5.4", []good{{"bne near\n.res 3\nnear: nop", "D0 03 00 00 00 EA"}, {".org 65534\nbne *+2-65536", "D0 00"}, {"bne $ff82", "D0 80"}})
}

func TestPlaces(t *testing.T) {
	refuses(t, "5.4", []bad{
		{"nop\n.org 0\nnop", 3, 1, asm.ErrOver}, {"nop\n.org 8192\nnop", 3, 1, asm.ErrOver}, {"nop\n.org $e000\na1: nop", 3, 5, asm.ErrOver}, {".org 8191\n.word 1\n.org 0\nnop", 4, 1, asm.ErrOver}, {".org 5\n.byte 1\n.org 3\n.byte 1,2,3", 4, 1, asm.ErrOver}, {".org 5\n.byte 1\n.org 4\nlda #1", 4, 1, asm.ErrOver}, {".org 5\n.byte 1\n.org 3\nlda 256", 4, 1, asm.ErrOver}, {".res 8193", 1, 1, asm.ErrOver}, {".org 8191\n.res 8193", 2, 1, asm.ErrOver}, {".res 65536", 1, 1, asm.ErrOver}, {".res 8192\nnop", 2, 1, asm.ErrOver}, {"nop\n.res 8192", 2, 1, asm.ErrOver}, {"nop\n.bank 1\nnop\n.bank 0\n.org 0\nnop", 6, 1, asm.ErrOver},
		{".org 65535\nnop\nnop", 3, 1, asm.ErrOver}, {".org 65535\n.word 1", 2, 1, asm.ErrOver}, {".org 65534\n a1: lda 256", 2, 6, asm.ErrOver}, {".org 65535\nnop\n.byte \"a\"", 3, 1, asm.ErrOver}, {".org 65535\nnop\n.res 1", 3, 1, asm.ErrOver}, {".org 65535\nnop\n.align 3", 3, 1, asm.ErrOver}, {".org 65535\n.res 2", 2, 1, asm.ErrOver}, {".org 65535\n.res 65536", 2, 1, asm.ErrOver}, {".org 60000\n.align 8192\n.res 8192\nnop", 3, 1, asm.ErrOver}, {".byte 1\n.org 8192\n.byte \"" + strings.Repeat("a", 10) + "\"", 3, 1, asm.ErrOver},
		{".org 57344\n.res 8192\n.org 0\nnop", 4, 1, asm.ErrOver},
	})
	for _, src := range []string{
		"nop\n.bank 1\n.org 0\nnop", "nop\n.org 8193\nnop", ".res 8192", ".org 57344\n.res 8192", ".org 57344\n.res 8192\na1: .res 0\n.byte \"\"\n.align 2\n.align 4096", ".org 8191\n.res 8192", ".org 65535\nnop\na1: n = a1\nm = *\n.org 0\nnop", "nop\n.org 0\n.res 0\n.byte \"\"\n.align 8192", ".org 65535\nnop\nb1:\n",
		".org 4\n.res 4\n.org 0\n.res 4\n.org 8\n.res 4\n.org 12\n.res 8180", ".bank 191\n.org $ffff\nnop",
	} {
		assembled(t, src)
	}
	o := assembled(t, ".org 65535\nnop\na1: n = a1\nm = *\n@x: k = @x")
	for _, s := range o.Syms {
		if s.Value != 65536 {
			t.Errorf("5.4: behind the last byte %s is %d", s.Name, s.Value)
		}
	}
	if len(o.Syms) != 4 {
		t.Errorf("5.4: %v", o.Syms)
	}
}

// All places of all banks may be laid at once.
func TestEveryPlace(t *testing.T) {
	var src strings.Builder
	for b := range 192 {
		fmt.Fprintf(&src, ".bank %d\n.org %d\n.res 8192,%d\n", b, b%8*8192, b)
	}
	o := assembled(t, src.String())
	if len(o.Segs) != 192 {
		t.Fatalf("5.4: %d segments", len(o.Segs))
	}
	for b, s := range o.Segs {
		if s.Bank != b || s.Org != b%8*8192 || len(s.Data) != 8192 || s.Data[0] != byte(b) || s.Data[8191] != byte(b) {
			t.Errorf("5.4: bank %d: %d, %d, %d bytes", b, s.Bank, s.Org, len(s.Data))
		}
	}
}
