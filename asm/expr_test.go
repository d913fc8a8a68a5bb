package asm_test

import (
	"math"
	"slices"
	"strings"
	"testing"

	"tandem/api"
	"tandem/asm"
)

func TestOrderOfSigns(t *testing.T) {
	values(t, nil, map[string]int{
		"1|2^3": 1, "(1|2)^3": 0, "1^3&2": 3, "(1^3)&2": 2, "6&1<<1": 2, "(6&1)<<1": 0, "1<<1+1": 4, "(1<<1)+1": 3, "2+3*4": 14, "(2+3)*4": 20, "2*3+4": 10, "20-4-3": 13, "20-(4-3)": 19, "100/5/2": 10, "100/(5/2)": 50, "2*9/4": 4, "9/4*2": 4, "1<<2<<3": 32, "256>>2<<1": 128, "1<<(2<<1)": 16,
		"-1+2": 1, "-(1+2)": -3, "~1+1": -1, "~(1+1)": -3, "-2*-3": 6, "--5": 5, "-~5": 6, "~-5": 4, "<-1": 255, "->$1234": -18, "<>$1234": 0x12, "><$1234": 0, "<$1234+1": 0x35, "<($1234+1)": 0x35, ">$1234<<8": 0x1200, "-1>>1": -1, "-(1>>1)": 0, "1+2*3-4/2|8^1&7<<1": 13, "((((5))))": 5, "  7 ; eight": 7, "10 - 2 - 3 + 4": 9, "1|2|4": 7, "7^1^2": 4, "15&7&3": 3, "-1*2+3": 1, "3-<-1": -252, "~0&15": 15, "-7/2&255": 253,
	})
}

func TestBoundsOfNumbers(t *testing.T) {
	low, high := "(-2147483647-1)", "2147483647"
	values(t, nil, map[string]int{
		high: math.MaxInt32, low: math.MinInt32, "-" + high: -math.MaxInt32, high + "+0": math.MaxInt32, low + "-0": math.MinInt32, low + "+" + high: -1, high + "+" + low: -1, "~" + low: math.MaxInt32, "~" + high: math.MinInt32, low + "/1": math.MinInt32, low + "*1": math.MinInt32, "65536*32767": 2147418112, "-65536*32768": math.MinInt32, "46340*46340": 2147395600, "-1<<31": math.MinInt32, "1<<30": 1 << 30, "0<<31": 0, low + "<<0": math.MinInt32, low + ">>31": -1, high + ">>31": 0, high + ">>30": 1, "-1>>0": -1, "-8>>1": -4, "-7>>1": -4,
		low + "|" + high: -1, low + "&" + high: 0, low + "^" + high: -1, "-1&255": 255, "-256|255": -1, "<" + low: 0, ">" + low: 0, "<" + high: 255, ">(-256)": 255, ">(-257)": 254, "<(-257)": 255, "7/2": 3, "-7/2": -3, "7/-2": -3, "-7/-2": 3, "0/5": 0, "1/2": 0, "-1/2": 0, high + "/" + high: 1, low + "/" + low: 1, low + "/" + high: -1, "-5*0": 0,
	})
	noValues(t, nil, []bad{
		{high + "+1", 1, 11, asm.ErrRange}, {"1 + " + high, 1, 3, asm.ErrRange}, {low + "-1", 1, 16, asm.ErrRange}, {"-2-" + high, 1, 3, asm.ErrRange}, {"-" + low, 1, 1, asm.ErrRange}, {"0-" + low, 1, 2, asm.ErrRange}, {low + "/-1", 1, 16, asm.ErrRange}, {low + "*-1", 1, 16, asm.ErrRange}, {"65536*32768", 1, 6, asm.ErrRange}, {"-65536*32769", 1, 7, asm.ErrRange}, {"46341*46341", 1, 6, asm.ErrRange}, {low + "*" + low, 1, 16, asm.ErrRange}, {"2147483648", 1, 1, asm.ErrRange}, {"-2147483648", 1, 2, asm.ErrRange},
		{"1<<31", 1, 2, asm.ErrRange}, {"2<<30", 1, 2, asm.ErrRange}, {"-1<<32", 1, 3, asm.ErrRange}, {"-2<<31", 1, 3, asm.ErrRange}, {"0<<32", 1, 2, asm.ErrRange}, {"0>>32", 1, 2, asm.ErrRange}, {"1<<-1", 1, 2, asm.ErrRange}, {"1>>-1", 1, 2, asm.ErrRange}, {"1>>" + high, 1, 2, asm.ErrRange}, {"1<<" + low, 1, 2, asm.ErrRange}, {low + "<<1", 1, 16, asm.ErrRange}, {high + "<<1", 1, 11, asm.ErrRange}, {high + "<<31", 1, 11, asm.ErrRange}, {low + "<<31", 1, 16, asm.ErrRange},
		{"1/0", 1, 2, asm.ErrRange}, {"0/0", 1, 2, asm.ErrRange}, {"5 / (1-1)", 1, 3, asm.ErrRange}, {low + "/0", 1, 16, asm.ErrRange},
	})
}

func TestFaultsFromTheLeft(t *testing.T) {
	syms := []api.Sym{{Name: "n", Value: 5}, {Name: "far", Value: 1 << 31}}
	noValues(t, syms, []bad{
		{"m + 1/0", 1, 1, asm.ErrUnknown}, {"1/0 + m", 1, 2, asm.ErrRange}, {"1/0*m", 1, 2, asm.ErrRange}, {"m*(1/0)", 1, 1, asm.ErrUnknown}, {"n/(m-m)", 1, 4, asm.ErrUnknown}, {"0*(1/0)", 1, 5, asm.ErrRange}, {"1/0<<99", 1, 2, asm.ErrRange}, {"1<<(99+'é')", 1, 8, asm.ErrRange}, {"'é'+m", 1, 1, asm.ErrRange}, {"m+'é'", 1, 1, asm.ErrUnknown}, {"1+m*n/0", 1, 3, asm.ErrUnknown}, {"1+n/0*m", 1, 4, asm.ErrRange}, {"-(1/0)", 1, 4, asm.ErrRange}, {"far+m", 1, 1, asm.ErrRange}, {"m+far", 1, 1, asm.ErrUnknown}, {"n+far", 1, 3, asm.ErrRange}, {"2147483647+1-m", 1, 11, asm.ErrRange}, {"*+m", 1, 1, asm.ErrUnknown}, {"1+*", 1, 3, asm.ErrUnknown}, {"1***1", 1, 3, asm.ErrUnknown},
		// what does not fit goes ahead of what can't be worked out
		{"1/0 2", 1, 5, asm.ErrToken}, {"m +", 1, 4, asm.ErrToken}, {"m )", 1, 3, asm.ErrToken}, {"(m", 1, 3, asm.ErrToken}, {"1/0+x", 1, 5, asm.ErrToken},
	})
}

func TestFormOfExpressions(t *testing.T) {
	noValues(t, nil, []bad{
		{"", 1, 1, asm.ErrToken}, {"   ", 1, 1, asm.ErrToken}, {" ; 5", 1, 1, asm.ErrToken}, {"1 2", 1, 3, asm.ErrToken}, {"1,2", 1, 2, asm.ErrToken}, {"1+", 1, 3, asm.ErrToken}, {"1 + ; 2", 1, 4, asm.ErrToken}, {"+1", 1, 1, asm.ErrToken}, {"1++1", 1, 3, asm.ErrToken}, {"()", 1, 2, asm.ErrToken}, {"(1", 1, 3, asm.ErrToken}, {"(1 ", 1, 3, asm.ErrToken}, {"1)", 1, 2, asm.ErrToken}, {"(1 2)", 1, 4, asm.ErrToken}, {"(1,2)", 1, 3, asm.ErrToken}, {"-", 1, 2, asm.ErrToken}, {"-)", 1, 2, asm.ErrToken}, {"1-", 1, 3, asm.ErrToken}, {"1 = 1", 1, 3, asm.ErrToken}, {"n: 1", 1, 2, asm.ErrToken}, {"#1", 1, 1, asm.ErrToken}, {".byte", 1, 1, asm.ErrToken}, {"1 .x", 1, 3, asm.ErrToken}, {"1~2", 1, 2, asm.ErrToken}, {"/1", 1, 1, asm.ErrToken}, {"|1", 1, 1, asm.ErrToken}, {"-+1", 1, 2, asm.ErrToken}, {"1|&2", 1, 3, asm.ErrToken},
		{"1\n", 1, 2, asm.ErrToken}, {"\n1", 1, 1, asm.ErrToken}, {"1\r", 1, 2, asm.ErrToken}, {"1\r\n", 1, 2, asm.ErrToken}, {"1 +\n1", 1, 4, asm.ErrToken},
	})
	values(t, nil, map[string]int{"1;\n+\r": 1, "\t1\t": 1, "1 ; \xff": 1})
	for _, s := range []string{"A", "X", "Y", "a", "x", "y"} {
		syms := []api.Sym{{Name: s, Value: 5}}
		noValues(t, syms, []bad{{s, 1, 1, asm.ErrToken}, {"1 + " + s, 1, 5, asm.ErrToken}, {"(" + s + ")", 1, 2, asm.ErrToken}, {"-" + s, 1, 2, asm.ErrToken}, {"1 " + s, 1, 3, asm.ErrToken}})
	}
}

func TestNamesOfEval(t *testing.T) {
	syms := []api.Sym{{Name: "n", Value: 5}, {Name: "n", Value: 6}, {Name: "N", Value: 7}, {Name: "@l", Value: 9}, {Name: "l", Value: 10}, {Name: "@l", Value: 11}, {Name: "lda", Value: 12}, {Name: "", Value: 13}, {Name: "1", Value: 14}, {Name: "*", Value: 15},
		{Name: "high", Value: math.MaxInt32}, {Name: "low", Value: math.MinInt32}, {Name: "over", Value: math.MaxInt32 + 1}, {Name: "under", Value: math.MinInt32 - 1}, {Name: "huge", Value: math.MaxInt}, {Name: "tiny", Value: math.MinInt}, {Name: "over", Value: 1}, {Name: ".d", Value: 2}, {Name: "é", Value: 3}}
	was := slices.Clone(syms)
	values(t, syms, map[string]int{"n": 5, "N": 7, "@l": 9, "l": 10, "@l*n ; nine": 45, "lda": 12, "1": 1, "high": math.MaxInt32, "low": math.MinInt32, "n+n*N": 40, "-n": -5, "<low": 0})
	noValues(t, syms, []bad{{"m", 1, 1, asm.ErrUnknown}, {"LDA", 1, 1, asm.ErrUnknown}, {"@n", 1, 1, asm.ErrUnknown}, {"n + nn", 1, 5, asm.ErrUnknown}, {"over", 1, 1, asm.ErrRange}, {" under", 1, 2, asm.ErrRange}, {"1+huge", 1, 3, asm.ErrRange}, {"tiny", 1, 1, asm.ErrRange}, {"<huge", 1, 2, asm.ErrRange}, {"0*over", 1, 3, asm.ErrRange}, {"*", 1, 1, asm.ErrUnknown}, {".d", 1, 1, asm.ErrToken}, {"é", 1, 1, asm.ErrToken}})
	if !slices.Equal(syms, was) {
		t.Errorf("5.3: Eval changed its names")
	}
	for _, none := range [][]api.Sym{nil, {}} {
		noValues(t, none, []bad{{"n", 1, 1, asm.ErrUnknown}, {"@n", 1, 1, asm.ErrUnknown}})
		values(t, none, map[string]int{"1+1": 2})
	}
}

func TestDepth(t *testing.T) {
	rep := strings.Repeat
	values(t, nil, map[string]int{
		rep("-", 64) + "1": 1, rep("~", 64) + "1": 1, rep("<", 1) + "1": 1, rep("(", 64) + "1" + rep(")", 64): 1, rep("-(", 32) + "1" + rep(")", 32): 1, rep("(-", 32) + "1" + rep(")", 32): 1,
		rep("(1)+", 200) + "1": 201, rep("-1+", 200) + "0": -200, rep("-", 64) + "1*" + rep("-", 64) + "1": 1, rep("(", 64) + "1" + rep(")", 64) + "+" + rep("(", 64) + "1" + rep(")", 64): 2, "(" + rep("-", 63) + "1+" + rep("-", 63) + "1)": -2, rep("< ", 64) + "1": 1, rep("> ", 63) + "-1": 0,
	})
	noValues(t, nil, []bad{
		{rep("-", 65) + "1", 1, 65, asm.ErrDeep}, {rep("~", 65) + "1", 1, 65, asm.ErrDeep}, {rep("(", 65) + "1" + rep(")", 65), 1, 65, asm.ErrDeep}, {rep("(", 65), 1, 65, asm.ErrDeep}, {rep("(", 64), 1, 65, asm.ErrToken}, {rep("-", 65), 1, 65, asm.ErrDeep}, {rep("-", 64), 1, 65, asm.ErrToken}, {rep("(", 64) + "-1", 1, 65, asm.ErrDeep}, {rep("-", 64) + "(1)", 1, 65, asm.ErrDeep}, {rep("(", 65535), 1, 65, asm.ErrDeep}, {rep("-", 65535), 1, 65, asm.ErrDeep}, {rep("< ", 65) + "1", 1, 129, asm.ErrDeep}, {rep("> ", 65) + "1", 1, 129, asm.ErrDeep},
		{"1+" + rep("-", 65) + "1", 1, 67, asm.ErrDeep}, {rep("(", 63) + "--1", 1, 65, asm.ErrDeep}, {rep("(", 64) + "1" + rep(")", 63), 1, 129, asm.ErrToken}, {rep("-", 65) + "1 \x00", 1, 68, asm.ErrToken}, {"m+" + rep("-", 65) + "1", 1, 67, asm.ErrDeep}, {"1 1 " + rep("-", 65), 1, 3, asm.ErrToken},
	})
	gives(t, "5.3", []good{
		{"jmp (" + rep("(", 64) + "1" + rep(")", 64) + ")", "6C 01 00"}, {"lda (" + rep("-", 64) + "1,x)", "A1 01"}, {"lda (" + rep("-", 64) + "1),y", "B1 01"}, {"lda #" + rep("-", 64) + "1", "A9 01"}, {".byte " + rep("-", 64) + "1," + rep("-", 64) + "2", "01 02"}, {"n = " + rep("(", 64) + "1" + rep(")", 64) + "\n.byte n", "01"},
	})
	refuses(t, "5.3", []bad{
		{"jmp (" + rep("(", 65) + "1" + rep(")", 65) + ")", 1, 70, asm.ErrDeep}, {"lda (" + rep("-", 65) + "1,x)", 1, 70, asm.ErrDeep}, {"lda #" + rep("-", 65) + "1", 1, 70, asm.ErrDeep}, {".byte 1," + rep("-", 65) + "2 2", 1, 73, asm.ErrDeep}, {"n = " + rep("(", 65), 1, 69, asm.ErrDeep},
		// the form's fault, in the first pass, and in its place among the line's others
		{"lda: .byte " + rep("-", 65), 1, 1, asm.ErrName}, {"foo " + rep("-", 65), 1, 1, asm.ErrName}, {"a1: nop\na1: .byte " + rep("-", 65), 2, 75, asm.ErrDeep}, {"sta #" + rep("-", 65) + "1", 1, 70, asm.ErrDeep}, {".byte nn\nlda #" + rep("-", 65) + "1", 2, 70, asm.ErrDeep},
	})
}

func TestLongExpressions(t *testing.T) {
	values(t, nil, map[string]int{strings.Repeat("1+", 32767) + "1": 32768, strings.Repeat("1-", 32767) + "1": -32766, strings.Repeat("2*1+", 16383) + "1": 32767})
}

func TestCharactersInExpressions(t *testing.T) {
	gives(t, "5.3", []good{{".charmap 'A', 200\n.byte 'A', 'A'-'B', 'B'\nlda #'A'\nlda 'A'", "C8 86 42 A9 C8 A5 C8"}, {".charmap 'é', -1\n.byte 'é'", "FF"}, {".charmap 'A', -128\n.word 'A'", "80 00"}})
	refuses(t, "5.3", []bad{{"lda #'é'", 1, 6, asm.ErrRange}, {"lda 1+'é'", 1, 7, asm.ErrRange}, {".byte 1,'\u0080'", 1, 9, asm.ErrRange}})
}

func TestHere(t *testing.T) {
	gives(t, "5.3", []good{
		{".byte *,*,*", "00 00 00"}, {"nop\n.byte *,*", "EA 01 01"}, {".org $1234\nn = *\n.word n,*,* + *", "34 12 34 12 68 24"}, {".org 5\na1: .byte *,a1", "05 05"}, {"nop\nbne *\nbne *-1", "EA D0 FE D0 FD"}, {".org 10\n.org *+2\n.byte *", "0C"}, {".org 7\n.res 2, *\n.align 4, *\n.byte *", "07 07 09 09 09 0C"}, {".byte 2***2\nn = 3\n.byte n**", "00 03"},
	})
}
