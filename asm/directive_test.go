package asm_test

import (
	"fmt"
	"strings"
	"testing"

	"tandem/api"
	"tandem/asm"
)

// Each number's bounds, and one beyond them.
func TestBoundsOfDirectives(t *testing.T) {
	for _, c := range []struct {
		text        string
		least, most int
		second      bool // the second pass asks for them
	}{
		{".org %d", 0, 65535, false}, {".bank %d", 0, 191, false}, {".byte %d", -128, 255, true}, {".word %d", -32768, 65535, true}, {".res %d", 0, 8192, false}, {".res 0,%d", -128, 255, true}, {".res 2,%d", -128, 255, true}, {".align %d", 1, 8192, false}, {".align 1,%d", -128, 255, true},
		{".charmap 'a',%d", -128, 255, false}, {".inesprg %d", 1, 64, false}, {".ineschr %d", 0, 64, false}, {".inesmap %d", 0, 255, false}, {".inesmir %d", 0, 2, false}, {".byte 1,\"a\",%d", -128, 255, true},
	} {
		for _, v := range []int{c.least, c.least + 1, (c.least + c.most) / 2, c.most - 1, c.most} {
			assembled(t, fmt.Sprintf(c.text, v))
		}
		col := strings.Index(c.text, "%d") + 1
		for _, v := range []int{c.least - 1, c.most + 1, -2147483647, 2147483647} {
			src := fmt.Sprintf(c.text, v)
			if strings.HasPrefix(src, ".res ") && v == 8193 {
				refuses(t, "5.5", []bad{{src, 1, 1, asm.ErrOver}, {".res 65537", 1, 6, asm.ErrRange}, {".res 65536", 1, 1, asm.ErrOver}})
				continue
			}
			list := []bad{{src, 1, col, asm.ErrRange}, {"n = 1\n" + src + "*n", 2, col, asm.ErrRange}, {src + "\nfoo", 1, col, asm.ErrRange}}
			if c.second {
				list[2] = bad{src + "\nfoo", 2, 1, asm.ErrName}
			}
			refuses(t, "5.5", list)
		}
	}
}

func TestFormOfDirectives(t *testing.T) {
	for _, d := range []string{".org", ".bank", ".inesprg", ".ineschr", ".inesmap", ".inesmir", ".if", ".word", ".byte", ".res", ".align"} {
		n := len(d)
		refuses(t, "5.5", []bad{{d, 1, n + 1, asm.ErrToken}, {d + " ; 1", 1, n + 1, asm.ErrToken}, {d + " 1 1", 1, n + 4, asm.ErrToken}, {d + " ,", 1, n + 2, asm.ErrToken}, {d + " #1", 1, n + 2, asm.ErrToken}, {d + " 1)", 1, n + 3, asm.ErrToken}, {d + " x", 1, n + 2, asm.ErrToken}, {d + " = 1", 1, n + 2, asm.ErrToken}, {d + ": 1", 1, n + 1, asm.ErrToken}, {d + " 1+", 1, n + 4, asm.ErrToken}, {d + " 1,", 1, n + 4 - boolInt(d != ".word" && d != ".byte" && d != ".res" && d != ".align"), asm.ErrToken}})
	}
	refuses(t, "5.5", []bad{
		{".org 1,2", 1, 7, asm.ErrToken}, {".if 1,2", 1, 6, asm.ErrToken}, {".res 1,2,3", 1, 9, asm.ErrToken}, {".res 1,2,", 1, 9, asm.ErrToken}, {".align 1,2 3", 1, 12, asm.ErrToken}, {".align 1,,2", 1, 10, asm.ErrToken}, {".res \"a\"", 1, 6, asm.ErrToken}, {".res 1,\"a\"", 1, 8, asm.ErrToken}, {".byte 1,,2", 1, 9, asm.ErrToken}, {".byte 1 \"a\"", 1, 9, asm.ErrToken}, {".byte \"a\" 1", 1, 11, asm.ErrToken}, {".byte \"a\",", 1, 11, asm.ErrToken}, {".word 1,2,", 1, 11, asm.ErrToken}, {".byte (\"a\")", 1, 8, asm.ErrToken},
		{".charmap", 1, 9, asm.ErrToken}, {".charmap 'a'", 1, 13, asm.ErrToken}, {".charmap 'a',", 1, 14, asm.ErrToken}, {".charmap 'a' 1", 1, 14, asm.ErrToken}, {".charmap 65,1", 1, 10, asm.ErrToken}, {".charmap \"a\",1", 1, 10, asm.ErrToken}, {".charmap ('a'),1", 1, 10, asm.ErrToken}, {".charmap 'a',1,2", 1, 15, asm.ErrToken}, {".charmap 'a'+1,2", 1, 13, asm.ErrToken}, {".charmap 'a',\"b\"", 1, 14, asm.ErrToken}, {".charmap a,1", 1, 10, asm.ErrToken},
		{".uncharmap", 1, 11, asm.ErrToken}, {".uncharmap 65", 1, 12, asm.ErrToken}, {".uncharmap \"a\"", 1, 12, asm.ErrToken}, {".uncharmap 'a','b'", 1, 15, asm.ErrToken}, {".uncharmap 'a' 1", 1, 16, asm.ErrToken},
		{".else 5", 1, 7, asm.ErrToken}, {".endif 5", 1, 8, asm.ErrToken}, {".else .else", 1, 7, asm.ErrToken}, {"a1: .endif ,", 1, 12, asm.ErrToken},
	})
}

// boolInt is 1 for true.
func boolInt(b bool) int {
	if b {
		return 1
	}
	return 0
}

func TestDirectivesInEitherCase(t *testing.T) {
	gives(t, "5.5", []good{{".ORG 5\n.Byte 1\n.bYTE \"a\"\n.WORD 1\n.Res 1\n.ALIGN 4\n.CharMap 'a',9\n.BYTE 'a'\n.UnCharMap 'a'\n.byte 'a'\n.IF 1\n.byte 1\n.ELSE\n.byte 2\n.ENDIF\n.If 0\n.byte 3\n.Else\n.byte 4\n.EndIf", "01 61 01 00 00 00 00 09 61 01 04"}})
	o := assembled(t, ".INESPRG 3\n.InesChr 2\n.inesMAP 7\n.InesMir 1\n.BANK 4\nnop")
	if o.Head != (api.Head{Prg: 3, Chr: 2, Mapper: 7, Mirror: 1}) || o.Segs[0].Bank != 4 {
		t.Errorf("5.5: %+v", o)
	}
}

func TestBytesWordsAndFills(t *testing.T) {
	gives(t, "5.5", []good{
		{".byte 1", "01"}, {".byte -128,-1,0,255", "80 FF 00 FF"}, {".byte \"\"", ""}, {".byte \"ab\",1,\"c\",\"\",2", "61 62 01 63 02"}, {".word 1,$1234,-1,-32768,65535,0", "01 00 34 12 FF FF 00 80 FF FF 00 00"}, {".res 3", "00 00 00"}, {".res 3,-1", "FF FF FF"}, {".res 0", ""}, {".res 0,5\n.byte 1", "01"}, {".res 2,n\nn = 9", "09 09"}, {".res 1+1", "00 00"},
		{".byte 1\n.align 4\n.byte 2\n.align 4,7\n.align 4,8\n.align 1\n.byte 3", "01 00 00 00 02 07 07 07 03"}, {".align 8192", ""}, {".byte 1\n.align 3\n.align 5,2", "01 00 00 02 02"}, {".org 7\n.align 3,1\n.byte 2", "01 01 02"}, {".byte 1,2,3\n.align 2,-128", "01 02 03 80"}, {".byte n,n+1\nn = 1", "01 02"}, {".word n\nn: nop", "02 00 EA"},
	})
	for _, n := range []int{1, 255, 256, 257, 8191, 8192} {
		o := assembled(t, fmt.Sprintf(".org %d\n.align %d,1\n.byte 2", 8192+1, n))
		pad := (n - 8193%n) % n
		if got := len(o.Segs[0].Data); got != pad+1 || o.Segs[0].Data[pad] != 2 {
			t.Errorf("5.5: .align %d lays %d bytes", n, got-1)
		}
	}
	// the filling byte is looked at even where none is laid
	refuses(t, "5.5", []bad{{".res 0,256", 1, 8, asm.ErrRange}, {".res 0,nn", 1, 8, asm.ErrUnknown}, {".align 1,-129", 1, 10, asm.ErrRange}, {".align 4,1/0", 1, 11, asm.ErrRange}, {".res 0, 1+nn", 1, 11, asm.ErrUnknown}, {".align 0", 1, 8, asm.ErrRange}, {".align 1/0,1/0", 1, 9, asm.ErrRange}, {".res nn,1/0", 1, 6, asm.ErrUnknown}})
}

func TestOrgAndBank(t *testing.T) {
	o := assembled(t, ".org $8000\n.bank 3\na1: nop\n.bank 3\nnop\n.org $8002\nnop\n.bank 0\nb1: nop")
	want := []api.Seg{{Bank: 3, Org: 0x8000}, {Bank: 3, Org: 0x8001}, {Bank: 3, Org: 0x8002}, {Bank: 0, Org: 0x8003}}
	if len(o.Segs) != len(want) {
		t.Fatalf("5.5: %+v", o.Segs)
	}
	for i, s := range o.Segs {
		if s.Bank != want[i].Bank || s.Org != want[i].Org || len(s.Data) != 1 {
			t.Errorf("5.5: segment %d is %+v", i, s)
		}
	}
}

func TestCharacterMap(t *testing.T) {
	gives(t, "5.5", []good{
		{".byte \"A\"\n.charmap 'A',1\n.byte \"A\",'A'\n.charmap 'A',2\n.byte \"A\",'A'\n.uncharmap 'A'\n.byte \"A\",'A'", "41 01 01 02 02 41 41"}, {".uncharmap 'A'\n.byte \"A\"", "41"}, {".charmap 'A',-1\n.charmap 'B',-128\n.charmap 'C',255\n.word 'A','B','C'", "FF 00 80 00 FF 00"}, {".charmap 'A',0\n.byte \"AB\",'A'+1", "00 42 01"},
		{".charmap 'A','B'\n.charmap 'B','A'\n.byte \"AB\"", "42 42"}, {".charmap 'A',5\n.charmap 'A','A'+1\n.byte 'A'", "06"}, {".charmap 'é',1\n.charmap '€',2\n.charmap '𝄞',3\n.byte \"é€𝄞é\",'€'", "01 02 03 01 02"}, {".charmap ''',7\n.charmap '\"',8\n.byte \"'\",''','\"'", "07 07 08"},
		// the map that holds at a line holds in both passes
		{"lda #'A'+n\n.charmap 'A',1\nlda #'A'+n\n.uncharmap 'A'\nlda #'A'+n\nn = 1", "A9 42 A9 02 A9 42"}, {".charmap 'A',1\n.res 'A','A'\n.charmap 'A',2\n.res 'A','A'", "01 02 02"}, {".charmap 'A',$12\nlda 'A'\nlda 'A',x\nn = 'A'\n.byte n", "A5 12 B5 12 12"}, {".if 0\n.charmap 'A',1\n.endif\n.byte 'A'", "41"}, {".charmap 'a',1\n.byte 'A',\"A\"", "41 41"},
	})
	refuses(t, "5.5", []bad{
		{".byte \"é\"", 1, 7, asm.ErrRange}, {".byte 1, \"aé\"", 1, 10, asm.ErrRange}, {".byte \"é\"\nfoo", 1, 7, asm.ErrRange}, {".byte 'é'\nfoo", 2, 1, asm.ErrName}, {".byte 300,\"é\"", 1, 11, asm.ErrRange}, {".byte \"\u0080\",\"é\"", 1, 7, asm.ErrRange}, {".charmap 'é',1\n.uncharmap 'é'\n.byte \"é\"", 3, 7, asm.ErrRange}, {".charmap 'é',1\n.uncharmap 'é'\n.byte 'é'", 3, 7, asm.ErrRange}, {".charmap 'A','é'", 1, 14, asm.ErrRange}, {".charmap 'é','é'", 1, 15, asm.ErrRange}, {".byte 'é'\n.charmap 'é',1", 1, 7, asm.ErrRange}, {".byte \"é\"\n.charmap 'é',1", 1, 7, asm.ErrRange}, {".charmap 'A',  256", 1, 16, asm.ErrRange}, {".charmap 'A',1\nnop\n.org 0\n.byte \"A\"", 4, 1, asm.ErrOver},
	})
}

func TestHead(t *testing.T) {
	for src, want := range map[string]api.Head{
		"": {Prg: 1}, ".inesprg 64\n.ineschr 64\n.inesmap 255\n.inesmir 2": {Prg: 64, Chr: 64, Mapper: 255, Mirror: 2}, ".inesprg 5\n.inesprg 2": {Prg: 2}, ".ineschr 5\n.ineschr 0": {Prg: 1}, ".inesmap 5\nn = 7\n.inesmap n": {Prg: 1, Mapper: 7}, ".inesmir 2\n.inesmir 1\n.if 0\n.inesmir 0\n.endif": {Prg: 1, Mirror: 1}, "nop\n.inesprg 3": {Prg: 3},
	} {
		if o := assembled(t, src); o.Head != want {
			t.Errorf("5.5: %q has the head %+v, want %+v", src, o.Head, want)
		}
	}
}

func TestIf(t *testing.T) {
	gives(t, "5.5", []good{
		{".if 1\n.byte 1\n.endif\n.byte 2", "01 02"}, {".if 0\n.byte 1\n.endif\n.byte 2", "02"}, {".if -1\n.byte 1\n.else\n.byte 2\n.endif", "01"}, {".if 0\n.byte 1\n.else\n.byte 2\n.endif\n.byte 3", "02 03"}, {".if 2147483647\n.byte 1\n.endif", "01"}, {".if -2147483647-1\n.byte 1\n.endif", "01"}, {".if 256\n.byte 1\n.endif", "01"}, {"n = 1\n.if n-1\n.byte 1\n.else\n.byte 2\n.endif", "02"}, {".if *\n.byte 1\n.else\n.byte 2\n.endif\n.if *\n.byte 3\n.endif", "02 03"}, {".if(1)\n.byte 1\n.endif", "01"}, {".if 0;x\n!\n.else;x\n.byte 1\n.endif;x", "01"},
		// within one another
		{".if 1\n.if 0\n.byte 1\n.else\n.byte 2\n.endif\n.byte 3\n.else\n.byte 4\n.endif", "02 03"}, {".if 0\n.if 1\n.byte 1\n.else\n.byte 2\n.endif\n.byte 3\n.else\n.byte 4\n.endif", "04"}, {".if 0\n.if 1\n.if 1\n.else\n.endif\n.else\n.endif\n.else\n.byte 4\n.endif\n.byte 5", "04 05"}, {".if 1\n.byte 1\n.else\n.if 1\n.byte 2\n.else\n.byte 3\n.endif\n.endif\n.byte 4", "01 04"},
		// of lines that do not count nothing is looked at
		{".if 0\n!!! \" \xff\n.if\n.endif\n.if 1 1 1\n.else 5\n.else 5\n.else\n.endif 5\n lda\nfoo:foo:\n.foo\n.org 99999\n2147483648\n.else\n.byte 3\n.endif", "03"}, {".if 0\n.ifx\n.if_\n.if1\n.endifx\n.elsex\n.else_\n.endif0\n. endif\n.endi\n.else\n.byte 1\n.endif", "01"}, {".if 0\na1: .endif\na1: .else\n;.endif\n\"\n.endif\n.byte 1", "01"}, {".if 0\n \t .if(5\n\t.IF\n .EnDiF\n\t.ENDIF\n  .ELSE\n.byte 1\n.endif", "01"}, {".if 0\n.if;\n.endif+\n.if$\n.else\xff\n.endif\x00\n.endif\r\n.byte 1", "01"}, {".if 0\r\n.byte 1\r\n.else\r\n.byte 2\r\n.endif\r\n", "02"}, {".if 0\nn = 1\nm: nop\n.endif\nn = 2\nm = 3\n.byte n,m", "02 03"}, {".if 1\nn = 1\n.else\nn = 2\n.endif\n.byte n", "01"}, {".if 0\n.charmap 'A',1\n.bank 5\n.org 9\n.inesprg 9\n.endif\n.byte 'A',*", "41 00"}, {"@x:\n.if 0\na1:\n.endif\n.byte @x", "00"},
		// labels in lines that count
		{"a1: .if 1\nb1: .byte a1,b1\nc1: .else\n.endif\n.byte c1", "00 00 02"}, {".if 1\nnop\na1: .endif\n.byte a1", "EA 01"}, {"@x: .if 0\n.endif\n.byte @x", "00"},
	})
	refuses(t, "5.5", []bad{
		{".else", 1, 1, asm.ErrDirective}, {" .endif", 1, 2, asm.ErrDirective}, {"a1: .else", 1, 5, asm.ErrDirective}, {".if 1\n.endif\n.endif", 3, 1, asm.ErrDirective}, {".if 1\n.endif\n.else", 3, 1, asm.ErrDirective}, {".if 1\n.else\n.else\n.endif", 3, 1, asm.ErrDirective}, {".if 0\n.else\n  .else\n.endif", 3, 3, asm.ErrDirective}, {".if 0\n.else\nx1: .else\n.endif", 3, 5, asm.ErrDirective}, {".if 1\n.else\n.if 1\n.else\n.else\n.endif\n.else", 7, 1, asm.ErrDirective},
		{".if 1", 1, 1, asm.ErrDirective}, {"  .if 0", 1, 3, asm.ErrDirective}, {".if 1\n.if 0", 2, 1, asm.ErrDirective}, {".if 0\n.if 0", 1, 1, asm.ErrDirective}, {".if 1\n.else\n.if 1", 1, 1, asm.ErrDirective}, {".if 1\n .if 1\n.else\n.if 1", 2, 2, asm.ErrDirective}, {".if 1\n a1: .if 1\n.if 1\n.endif", 2, 6, asm.ErrDirective}, {".if 0\n.if 1\n.endif", 1, 1, asm.ErrDirective}, {".if 1\nlda #300", 1, 1, asm.ErrDirective}, {".if 1\nfoo", 2, 1, asm.ErrName}, {".if 0\nfoo", 1, 1, asm.ErrDirective},
		{" .else 5", 1, 8, asm.ErrToken}, {".if 0\n.else 5\n.endif", 2, 7, asm.ErrToken}, {".if 0\n .endif 5", 2, 9, asm.ErrToken}, {".if 1\n.else\n.endif ?", 3, 8, asm.ErrToken}, {".if 0\n.else\xff\n.endif", 2, 6, asm.ErrToken}, {".if 0\n.endif\r\r\n", 2, 7, asm.ErrToken}, {".if 0\n.else:\n.endif", 2, 6, asm.ErrToken}, {".if 0\n.if 0\n.endif\n.else 5", 4, 7, asm.ErrToken}, {".if 1\n.else\n.else 5", 3, 7, asm.ErrToken},
		{".if 0\n.byte 1\n.else\nfoo\n.endif", 4, 1, asm.ErrName}, {".if 1\nfoo\n.endif", 2, 1, asm.ErrName}, {".if 1\n.else\n!\n.endif\n!", 5, 1, asm.ErrToken}, {".if 1/0\n.endif", 1, 6, asm.ErrRange}, {".if nn\n.endif\nnn = 1", 1, 5, asm.ErrUnknown}, {".if 0\na1: .endif\n", 1, 1, asm.ErrDirective}, {"a1: nop\na1: .if 1/0", 2, 1, asm.ErrTwice},
	})
}

func TestDepthOfIf(t *testing.T) {
	rep := strings.Repeat
	gives(t, "5.5", []good{
		{rep(".if 1\n", 16) + ".byte 1\n" + rep(".endif\n", 16) + ".byte 2", "01 02"}, {rep(".if 1\n", 15) + ".if 0\n" + rep(".if 1\n", 1000) + ".byte 1\n" + rep(".endif\n", 1016) + ".byte 2", "02"}, {rep(".if 0\n", 5000) + ".byte 1\n" + rep(".endif\n", 5000) + ".byte 2", "02"}, {rep(".if 0\n.else\n", 16) + ".byte 1\n" + rep(".endif\n", 16), "01"}, {rep(".if 1\n.endif\n", 100) + ".byte 1", "01"}, {rep(".if 1\n", 16) + ".endif\n.if 1\n.byte 1\n" + rep(".endif\n", 16), "01"},
	})
	refuses(t, "5.5", []bad{
		{rep(".if 1\n", 16) + " .if 1\n" + rep(".endif\n", 17), 17, 2, asm.ErrDeep}, {rep(".if 1\n", 16) + "a1: .if 0\n" + rep(".endif\n", 17), 17, 5, asm.ErrDeep}, {rep(".if 1\n", 16) + ".if 1/0\n", 17, 1, asm.ErrDeep}, {rep(".if 1\n", 16) + ".if nn", 17, 1, asm.ErrDeep}, {rep(".if 1\n", 16) + ".if", 17, 4, asm.ErrToken}, {rep(".if 1\n", 16), 16, 1, asm.ErrDirective}, {rep(".if 0\n.else\n", 16) + ".if 0", 33, 1, asm.ErrDeep}, {"a1:\n" + rep(".if 1\n", 16) + "a1: .if 1", 18, 1, asm.ErrTwice},
	})
}
