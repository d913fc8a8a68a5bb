package asm_test

import (
	"fmt"
	"strings"
	"testing"

	"tandem/api"
	"tandem/asm"
	"tandem/isa"
)

func TestLabels(t *testing.T) {
	gives(t, "5.2", []good{
		{"a1: nop", "EA"}, {"a1 : nop", "EA"}, {"a1:nop", "EA"}, {"a1:", ""}, {"@a:", ""}, {"@lda: .byte @lda", "00"}, {"@x: b1 = 7\n .byte b1, @x", "07 00"}, {"a1: b1 = a1+1\n .byte b1", "01"}, {"a1: .byte a1", "00"},
	})
	refuses(t, "5.2", []bad{
		{": nop", 1, 1, asm.ErrToken}, {"a1:: nop", 1, 4, asm.ErrToken}, {"a1: b1: nop", 1, 5, asm.ErrName}, {"a1: @b: nop", 1, 5, asm.ErrToken}, {"a1: lda: nop", 1, 8, asm.ErrToken}, {"@a: @a", 1, 5, asm.ErrToken},
		{"@x", 1, 1, asm.ErrToken}, {"@x nop", 1, 1, asm.ErrToken}, {"@x = 1", 1, 1, asm.ErrToken}, {"a1: @x = 1", 1, 5, asm.ErrToken}, {".org: nop", 1, 5, asm.ErrToken}, {"5: nop", 1, 1, asm.ErrToken}, {"'a': nop", 1, 1, asm.ErrToken}, {"a1: = 5", 1, 5, asm.ErrToken},
		{"a1", 1, 1, asm.ErrName}, {" a1 nop", 1, 2, asm.ErrName}, {"a1 + 1", 1, 1, asm.ErrName}, {"a1 ; = 1", 1, 1, asm.ErrName},
	})
}

func TestNamesThatCannotBeGiven(t *testing.T) {
	names := []string{"A", "X", "Y"}
	for op := range api.Op(api.OpCount) {
		names = append(names, isa.Name(op))
	}
	if len(names) != 73 || names[72] != "JAM" {
		t.Fatalf("the names: %v", names)
	}
	for _, n := range names {
		for _, s := range []string{n, strings.ToLower(n), n[:1] + strings.ToLower(n[1:])} {
			refuses(t, "5.2", []bad{{s + ": nop", 1, 1, asm.ErrName}, {"  " + s + " = 1", 1, 3, asm.ErrName}, {"a1: " + s + " =", 1, 5, asm.ErrName}, {s + ": 5", 1, 1, asm.ErrName}, {s + " = = 2", 1, 1, asm.ErrName}})
			gives(t, "5.2", []good{{"_" + s + " = 1\n@" + s + ": .byte _" + s + ", @" + s, "01 00"}})
		}
	}
}

func TestLinesThatDoNotFit(t *testing.T) {
	refuses(t, "5.2", []bad{
		{"5", 1, 1, asm.ErrToken}, {" 'a'", 1, 2, asm.ErrToken}, {"#1", 1, 1, asm.ErrToken}, {"a1: 5", 1, 5, asm.ErrToken}, {"= 1", 1, 1, asm.ErrToken}, {"*=5", 1, 1, asm.ErrToken},
		{"n =", 1, 4, asm.ErrToken}, {"n =   ", 1, 4, asm.ErrToken}, {"n = ; 5", 1, 4, asm.ErrToken}, {"n = 1 2", 1, 7, asm.ErrToken}, {"n = 1,2", 1, 6, asm.ErrToken}, {"n = = 1", 1, 5, asm.ErrToken}, {"n = X", 1, 5, asm.ErrToken}, {"n = 1 = 2", 1, 7, asm.ErrToken}, {"n = 1:", 1, 6, asm.ErrToken}, {"n == 1", 1, 4, asm.ErrToken},
		{"nop nop", 1, 5, asm.ErrUnknown}, {"nop:", 1, 1, asm.ErrName}, {"nop ,", 1, 5, asm.ErrToken}, {"nop )", 1, 5, asm.ErrToken}, {"nop .byte 1", 1, 5, asm.ErrToken}, {"a1: nop nop nop", 1, 13, asm.ErrToken},
		{"lda #", 1, 6, asm.ErrToken}, {"lda # ; 1", 1, 6, asm.ErrToken}, {"lda #1 2", 1, 8, asm.ErrToken}, {"lda #1,x", 1, 7, asm.ErrToken}, {"lda ##1", 1, 6, asm.ErrToken}, {"lda #x", 1, 6, asm.ErrToken}, {"lda #A", 1, 6, asm.ErrToken},
		{"lda 1,", 1, 7, asm.ErrToken}, {"lda 1,2", 1, 7, asm.ErrToken}, {"lda 1,a", 1, 7, asm.ErrToken}, {"lda 1,x,y", 1, 8, asm.ErrToken}, {"lda 1,x 2", 1, 9, asm.ErrToken}, {"lda 1,xx", 1, 7, asm.ErrToken}, {"lda 1,@x", 1, 7, asm.ErrToken}, {"lda 1,,x", 1, 7, asm.ErrToken}, {"lda ,x", 1, 5, asm.ErrToken}, {"lda 1,y)", 1, 8, asm.ErrToken}, {"lda 1,\"x\"", 1, 7, asm.ErrToken}, {"lda 1,'x'", 1, 7, asm.ErrToken},
		{"lda (", 1, 6, asm.ErrToken}, {"lda ()", 1, 6, asm.ErrToken}, {"lda (1", 1, 7, asm.ErrToken}, {"lda (1,", 1, 8, asm.ErrToken}, {"lda (1,x", 1, 9, asm.ErrToken}, {"lda (1,y)", 1, 8, asm.ErrToken}, {"lda (1,2)", 1, 8, asm.ErrToken}, {"lda (1,x),y", 1, 10, asm.ErrToken}, {"lda (1,x)+1", 1, 10, asm.ErrToken},
		{"lda (1),x", 1, 9, asm.ErrToken}, {"lda (1),", 1, 9, asm.ErrToken}, {"lda (1),y,", 1, 10, asm.ErrToken}, {"lda (1)+2", 1, 8, asm.ErrToken}, {"lda (1)*2,x", 1, 8, asm.ErrToken}, {"lda (1) 2", 1, 9, asm.ErrToken}, {"lda (1,x y", 1, 10, asm.ErrToken}, {"lda (1:", 1, 7, asm.ErrToken}, {"lda (x)", 1, 6, asm.ErrToken}, {"lda (x,x)", 1, 6, asm.ErrToken}, {"jmp (1)(2)", 1, 8, asm.ErrToken}, {"lda (1,\"x\")", 1, 8, asm.ErrToken},
		{"asl a,x", 1, 6, asm.ErrToken}, {"asl a a", 1, 7, asm.ErrToken}, {"asl A+1", 1, 6, asm.ErrToken}, {"lda a+1", 1, 6, asm.ErrToken}, {"asl 1+a", 1, 7, asm.ErrToken}, {"lda x", 1, 5, asm.ErrToken}, {"lda Y", 1, 5, asm.ErrToken}, {"lda x,x", 1, 5, asm.ErrToken}, {"lda (A)", 1, 6, asm.ErrToken},
		{"foo", 1, 1, asm.ErrName}, {"foo 5 5", 1, 1, asm.ErrName}, {"x", 1, 1, asm.ErrName}, {"A", 1, 1, asm.ErrName}, {"a: foo", 1, 1, asm.ErrName}, {"a1: foo 1 =", 1, 5, asm.ErrName}, {"lda_ 1", 1, 1, asm.ErrName},
		{".foo 5 5", 1, 1, asm.ErrDirective}, {"a1: .foo", 1, 5, asm.ErrDirective}, {"lda: .foo", 1, 1, asm.ErrName}, {".or 5", 1, 1, asm.ErrDirective}, {".orgs 5", 1, 1, asm.ErrDirective}, {".5", 1, 1, asm.ErrDirective}, {"._", 1, 1, asm.ErrDirective},
		{"lda.44 1", 1, 4, asm.ErrToken}, {"nop .44", 1, 5, asm.ErrToken},
	})
}

// operandOf is an operand of a mode, its value being v as it is written.
func operandOf(mode api.Mode, v string) string {
	return strings.ReplaceAll(map[api.Mode]string{api.ModeImp: "", api.ModeAcc: "A", api.ModeImm: "#v", api.ModeZp: "v", api.ModeZpx: "v,X", api.ModeZpy: "v,Y", api.ModeIzx: "(v,X)", api.ModeIzy: "(v),Y",
		api.ModeAbs: "v", api.ModeAbx: "v,X", api.ModeAby: "v,Y", api.ModeInd: "(v)", api.ModeRel: "v"}[mode], "v", v)
}

// can tells whether an operation has a mode.
func can(op api.Op, mode api.Mode) bool {
	_, e := isa.Encode(op, mode)
	return e == api.OK
}

// Every operation with every operand, short and not.
func TestModes(t *testing.T) {
	for op := range api.Op(api.OpCount) {
		name := strings.ToLower(isa.Name(op))
		for mode := api.ModeImp; mode <= api.ModeRel; mode++ {
			for _, v := range []string{"$12", "$0012", "$1234", "later"} {
				text := operandOf(mode, v)
				short := v == "$12"
				want, ok := toldMode(op, text, short)
				src := " " + name + " " + text + "\nlater = $34\n"
				if !ok {
					col := 6
					if text == "" {
						col = 2
					}
					refuses(t, "5.2", []bad{{src, 1, col, asm.ErrMode}})
					continue
				}
				code, _ := isa.Encode(op, want)
				n := isa.Decode(code).Len
				value := map[string]int{"$12": 0x12, "$0012": 0x12, "$1234": 0x1234, "later": 0x34}[v]
				if n == 2 && value > 255 {
					err := asm.ErrRange
					if want == api.ModeRel {
						err = asm.ErrFar
					}
					refuses(t, "5.2", []bad{{src, 1, 6, err}})
					continue
				}
				if want == api.ModeRel {
					value -= 2
				}
				gives(t, "5.2", []good{{src, fmt.Sprintf("%02X %02X %02X", code, value&255, value>>8)[:3*n-1]}})
			}
		}
	}
}

// toldMode is the mode of an operand's text with an operation.
func toldMode(op api.Op, text string, short bool) (api.Mode, bool) {
	var row []api.Mode // from the best on
	switch {
	case text == "":
		row = []api.Mode{api.ModeImp, api.ModeAcc}
	case text == "A":
		row = []api.Mode{api.ModeAcc}
	case text[0] == '#':
		row = []api.Mode{api.ModeImm}
	case strings.HasSuffix(text, ",X)"):
		row = []api.Mode{api.ModeIzx}
	case strings.HasSuffix(text, "),Y"):
		row = []api.Mode{api.ModeIzy}
	case text[0] == '(':
		row = []api.Mode{api.ModeInd}
	case strings.HasSuffix(text, ",X"):
		row = []api.Mode{api.ModeZpx, api.ModeAbx}
	case strings.HasSuffix(text, ",Y"):
		row = []api.Mode{api.ModeZpy, api.ModeAby}
	case can(op, api.ModeRel):
		row = []api.Mode{api.ModeRel}
	default:
		row = []api.Mode{api.ModeZp, api.ModeAbs}
	}
	if text != "" && len(row) == 2 && !short {
		row[0], row[1] = row[1], row[0]
	}
	for _, m := range row {
		if can(op, m) {
			return m, true
		}
	}
	return 0, false
}

func TestModesByHand(t *testing.T) {
	gives(t, "5.2", []good{
		{"asl\nasl a\nasl A\nlsr\nrol\nror", "0A 0A 0A 4A 2A 6A"}, {"nop\nbrk\njam\nJaM", "EA 00 02 02"}, {"LdA #1\nlDa #1", "A9 01 A9 01"},
		{"lda ($12),y\nlda ($12),Y\nsta ($34,x)\nsta ($34,X)", "B1 12 B1 12 81 34 81 34"}, {"jmp ($12)\njmp ($1234)\njmp $12\njsr 5", "6C 12 00 6C 34 12 4C 12 00 20 05 00"},
		{"stx 5,y\nsty 5,x\nldx 5,y\nldx 256,y\nlda 5,y\nldy 5,x", "96 05 94 05 B6 05 BE 00 01 B9 05 00 B4 05"}, {"lax 5,y\nlas 5,y\nsax 5,y", "B7 05 BB 05 00 97 05"},
		{"nop 1\nnop 1,x\nnop #1\nnop $0001\nnop 256,x", "04 01 14 01 80 01 0C 01 00 1C 00 01"}, {"sbc #1\nanc #1\nslo 5,y", "E9 01 0B 01 1B 05 00"}, {"lda 0\nlda 255\nlda 256", "A5 00 A5 FF AD 00 01"},
		{"jmp ((1))\nlda ((1)+1,x)\nlda ((2)),y", "6C 01 00 A1 02 B1 02"},
	})
	refuses(t, "5.2", []bad{
		{"nop 1,y", 1, 5, asm.ErrMode}, {"nop (1),y", 1, 5, asm.ErrMode}, {"lda", 1, 1, asm.ErrMode}, {"a1: lda", 1, 5, asm.ErrMode}, {"lda a", 1, 5, asm.ErrMode}, {"nop a", 1, 5, asm.ErrMode}, {"bne #1", 1, 5, asm.ErrMode}, {"bne 1,x", 1, 5, asm.ErrMode}, {"bne", 1, 1, asm.ErrMode}, {"jsr (1)", 1, 5, asm.ErrMode}, {"jmp 1,x", 1, 5, asm.ErrMode},
		{"inc", 1, 1, asm.ErrMode}, {"stx $12,x", 1, 5, asm.ErrMode}, {"stx $1234,y", 1, 5, asm.ErrRange}, {"sty later,x\nlater = 256", 1, 5, asm.ErrRange}, {"brk #1", 1, 5, asm.ErrMode}, {"brk 1", 1, 5, asm.ErrMode}, {"jam 1", 1, 5, asm.ErrMode}, {"lda (1)", 1, 5, asm.ErrMode}, {"asl (1),y", 1, 5, asm.ErrMode},
	})
}

func TestWhatIsShort(t *testing.T) {
	gives(t, "5.2", []good{
		{"lda $ff\nlda $0ff\nlda $00ff", "A5 FF AD FF 00 AD FF 00"}, {"lda $0\nlda $00\nlda $000", "A5 00 A5 00 AD 00 00"}, {"lda 000255\nlda %000011111111", "A5 FF A5 FF"}, {"lda <$1234\nlda >$1234", "AD 34 00 AD 12 00"}, {"lda $1234-$1230", "AD 04 00"}, {"lda $12*0+$012", "AD 12 00"},
		{"n = $0012\nlda n\nlda n+$1\nlda n+$001", "A5 12 A5 13 AD 13 00"}, {"lda 'a'\nlda *\nlda *+1", "A5 61 A5 02 A5 05"}, {"lda 256-1\nlda 255+1\nlda 1-1", "A5 FF AD 00 01 A5 00"},
		{"lda n\nn = 5\nlda n", "AD 05 00 A5 05"}, {"lda n*0\nn = 5", "AD 00 00"}, {"lda 0*n\nn = 5", "AD 00 00"}, {"a1: lda a1\nlda b1\nb1: lda b1", "A5 00 AD 05 00 A5 05"}, {"lda @x\n@x: lda @x\nlda @x,y", "AD 03 00 A5 03 B9 03 00"}, {"sty n,x\nn = 5", "94 05"}, {"stx n,y\nn = 255", "96 FF"}, {"stx $0005,y", "96 05"}, {"lda n,x\nn = 5", "BD 05 00"},
		{"@x: lda @x\na1: lda @x\n@x: lda @x", "A5 00 AD 05 00 A5 05"},
	})
	refuses(t, "5.2", []bad{{"lda -1", 1, 5, asm.ErrRange}, {"lda n\nn = -1", 1, 5, asm.ErrRange}, {"lda 65536,x", 1, 5, asm.ErrRange}, {"lda  65535 + 1", 1, 6, asm.ErrRange}})
}
