package isa_test

import (
	"bytes"
	"fmt"
	"math/rand"
	"strings"
	"sync"
	"testing"

	"tandem/api"
	"tandem/isa"
)

// holdRead holds Read of a line against the chapter's words.
func holdRead(t *testing.T, line string, pc uint16) {
	t.Helper()
	want, e, place := toldRead(line, pc)
	got, f, at := isa.Read(line, pc)
	if !bytes.Equal(got, want) || f != e || at != place || e != api.OK && got != nil {
		t.Errorf("P4.6: Read(%q, %04x) = % x, %d, %d, want % x, %d, %d", line, pc, got, f, at, want, e, place)
	}
}

func TestReadByHand(t *testing.T) {
	for _, c := range []struct {
		line  string
		pc    uint16
		want  string
		e     api.Errno
		place int
	}{
		{"lda $12,x", 0, "B5 12", api.OK, 0},
		{"LDA $0012", 0, "AD 12 00", api.OK, 0},
		{"LDX $12,X", 0, "", api.ErrMode, 4},
		{"LDA $123", 0, "", api.ErrLine, 8},
		{"LDA  #$12", 0, "", api.ErrLine, 4},
		{"NOP.EA", 0, "EA", api.OK, 0},
		{"NOP.EB", 0, "", api.ErrName, 3},
		{"NOP.82", 0, "", api.ErrMode, 6},
		{"BEQ $1000", 0x0f00, "", api.ErrRange, 4},
		{"BEQ $FFFF", 0x0000, "F0 FD", api.OK, 0},

		{"asl a", 0, "0A", api.OK, 0},
		{"ASL", 0, "", api.ErrMode, 3},
		{"rol.2A A", 0, "2A", api.OK, 0},
		{"Sbc.eB #$0f", 0, "EB 0F", api.OK, 0},
		{"SBC #$aB", 0, "E9 AB", api.OK, 0},
		{"sbc.e9 #$12", 0, "E9 12", api.OK, 0},
		{"JMP ($10fF)", 0, "6C FF 10", api.OK, 0},
		{"sax $12,y", 0, "97 12", api.OK, 0},
		{"lda ($fe,x)", 0, "A1 FE", api.OK, 0},
		{"LDA ($fe),y", 0, "B1 FE", api.OK, 0},
		{"nop", 0, "EA", api.OK, 0},
		{"jam", 0, "02", api.OK, 0},
		{"jam.f2", 0, "F2", api.OK, 0},
		{"jam.02", 0, "02", api.OK, 0},
		{"brk", 0, "00", api.OK, 0},
		{"NOP $1234,Y", 0, "", api.ErrMode, 4},
		{"NOP.9B $1234,Y", 0, "9B 34 12", api.OK, 0},
		{"NOP.9B $1234,X", 0, "", api.ErrMode, 7},
		{"NOP ($12),Y", 0, "", api.ErrMode, 4},
		{"NOP.93 ($12),Y", 0, "93 12", api.OK, 0},
		{"NOP.8b #$12", 0, "8B 12", api.OK, 0},
		{"NOP.1A", 0, "1A", api.OK, 0},
		{"NOP.1A A", 0, "", api.ErrMode, 7},
		{"BNE $12", 0, "", api.ErrMode, 4},
		{"BNE $0012,X", 0, "", api.ErrMode, 4},
		{"BNE.D0 $12", 0, "", api.ErrMode, 7},
		{"BNE.d0 $0002", 0, "D0 00", api.OK, 0},
		{"BNE.F0 $0002", 0, "", api.ErrName, 3},
		{"JMP $0002", 0, "4C 02 00", api.OK, 0},
		{"JMP.6C $0002", 0, "", api.ErrMode, 7},
		{"BEQ $1081", 0x1000, "F0 7F", api.OK, 0},
		{"BEQ $1082", 0x1000, "", api.ErrRange, 4},
		{"BEQ $0F82", 0x1000, "F0 80", api.OK, 0},
		{"BEQ $0F81", 0x1000, "", api.ErrRange, 4},
		{"BEQ.F0 $0F81", 0x1000, "", api.ErrRange, 7},
		{"BEQ $007F", 0xfffe, "F0 7F", api.OK, 0},
		{"BEQ $0080", 0xfffe, "", api.ErrRange, 4},
		{"BEQ $FF80", 0xfffe, "F0 80", api.OK, 0},
		{"BEQ $FF7F", 0xfffe, "", api.ErrRange, 4},
		{"BEQ $FF82", 0x0000, "F0 80", api.OK, 0},
		{"BEQ $FF81", 0x0000, "", api.ErrRange, 4},
		{"BEQ $0080", 0xffff, "F0 7F", api.OK, 0},
		{"BEQ $8002", 0x0000, "", api.ErrRange, 4},
		{"BEQ $8001", 0x0000, "", api.ErrRange, 4},

		{"", 0, "", api.ErrName, 0},
		{"L", 0, "", api.ErrName, 0},
		{"LD", 0, "", api.ErrName, 0},
		{" LDA", 0, "", api.ErrName, 0},
		{"XYZ #$12", 0, "", api.ErrName, 0},
		{"LD\xc1 #$12", 0, "", api.ErrName, 0},
		{"l\u0064\u0430", 0, "", api.ErrName, 0},
		{"LDA\x00", 0, "", api.ErrLine, 3},
		{"LDA\xa0#$12", 0, "", api.ErrLine, 3},
		{"LDAX", 0, "", api.ErrLine, 3},
		{"LDA ", 0, "", api.ErrLine, 4},
		{"LDA\t#$12", 0, "", api.ErrLine, 3},
		{"NOP ", 0, "", api.ErrLine, 4},
		{"NOP\n", 0, "", api.ErrLine, 3},
		{"LDA.", 0, "", api.ErrLine, 4},
		{"LDA.A", 0, "", api.ErrLine, 5},
		{"LDA.G9 #$12", 0, "", api.ErrLine, 4},
		{"LDA.A9#$12", 0, "", api.ErrLine, 6},
		{"LDA.A9.A9 #$12", 0, "", api.ErrLine, 6},
		{"LDA .A9", 0, "", api.ErrLine, 4},
		{"LDA #$1G", 0, "", api.ErrLine, 7},
		{"LDA #$123", 0, "", api.ErrLine, 8},
		{"LDA #12", 0, "", api.ErrLine, 5},
		{"LDA $", 0, "", api.ErrLine, 5},
		{"LDA $12345", 0, "", api.ErrLine, 9},
		{"LDA $12 ,X", 0, "", api.ErrLine, 7},
		{"LDA $12,Z", 0, "", api.ErrLine, 8},
		{"LDA $12,X ", 0, "", api.ErrLine, 9},
		{"LDA $1234,", 0, "", api.ErrLine, 10},
		{"LDA ($12,Y)", 0, "", api.ErrLine, 9},
		{"LDA ($12),X", 0, "", api.ErrLine, 10},
		{"LDA ($12)", 0, "", api.ErrLine, 9},
		{"LDA ($123)", 0, "", api.ErrLine, 9},
		{"LDA ($1234,X)", 0, "", api.ErrLine, 10},
		{"LDA ($1234),Y", 0, "", api.ErrLine, 11},
		{"ASL AA", 0, "", api.ErrLine, 5},
		{"ASL X", 0, "", api.ErrLine, 4},
	} {
		got, e, place := isa.Read(c.line, c.pc)
		if told := strings.ToUpper(fmt.Sprintf("% x", got)); told != c.want || e != c.e || place != c.place {
			t.Errorf("P4.6: Read(%q, %04x) = %s, %d, %d, want %s, %d, %d", c.line, c.pc, told, e, place, c.want, c.e, c.place)
		}
		holdRead(t, c.line, c.pc)
	}
}

func TestReadOfLongLines(t *testing.T) {
	for _, begin := range []string{"LDA #$12", "XYZ", "", "BEQ $1000", "NOP.EB", "LDX $12,X"} {
		for n := 31; n <= 34; n++ {
			holdRead(t, begin+strings.Repeat(" ", n-len(begin)), 0)
		}
	}
	if got, e, place := isa.Read("LDA #$12"+strings.Repeat(" ", 24), 0); got != nil || e != api.ErrLine || place != 8 {
		t.Errorf("P4.6: of 32 bytes: % x, %d, %d", got, e, place)
	}
	for _, n := range []int{33, 34, 1000, 1 << 20} {
		if got, e, place := isa.Read(("LDA #$12" + strings.Repeat(" ", n))[:n], 0); got != nil || e != api.ErrLong || place != 0 {
			t.Errorf("P4.6: of %d bytes: % x, %d, %d", n, got, e, place)
		}
	}
}

// samples is a line of each form, with and without an opcode behind the name.
func samples() []string {
	var l []string
	for _, operand := range []string{"", " A", " #$1B", " $1b", " $C2,X", " $d3,Y", " $1A2B", " $3C4d,X", " $5E6F,y", " ($7A8B)", " ($9c,X)", " ($Ad),Y"} {
		for _, name := range []string{"LDA", "nop", "Beq", "JMP", "NOP.9b", "NOP.EA", "BEQ.F0", "LDA.A9"} {
			l = append(l, name+operand)
		}
	}
	return l
}

func TestReadOfEveryBeginning(t *testing.T) {
	for _, line := range samples() {
		for n := range len(line) + 1 {
			holdRead(t, line[:n], 0x1a00)
		}
	}
}

func TestReadOfAByteTooMany(t *testing.T) {
	for _, line := range samples() {
		for b := range 256 {
			if b < 128 || b%16 == 0 {
				holdRead(t, line+string([]byte{uint8(b)}), 0x1a00)
			}
		}
	}
}

func TestReadOfOneOtherByte(t *testing.T) {
	for _, line := range []string{"NOP.9b $5E6F,y", "lda ($9c,X)", "LDA ($Ad),Y", "JMP ($7A8B)", "BEQ $1A2B", "asl A", "LDX #$1B"} {
		for i := range len(line) {
			for b := range 256 {
				other := []byte(line)
				other[i] = uint8(b)
				holdRead(t, string(other), 0x1a00)
			}
		}
	}
}

func TestReadOfAByteLessOrDoubled(t *testing.T) {
	for _, line := range samples() {
		for i := range len(line) {
			holdRead(t, line[:i]+line[i+1:], 0x1a00)
			holdRead(t, line[:i]+line[i:i+1]+line[i:], 0x1a00)
		}
	}
}

func TestReadOfEveryNameAndOperand(t *testing.T) {
	for _, name := range names {
		for _, operand := range []string{"", " A", " #$12", " $12", " $12,X", " $12,Y", " $1234", " $1234,X", " $1234,Y", " ($1234)", " ($12,X)", " ($12),Y"} {
			holdRead(t, name+operand, 0x1200)
		}
	}
}

func TestReadOfEveryOpcodeBehindAPoint(t *testing.T) {
	for code := range 256 {
		for _, begin := range []string{"NOP.%02X", "nop.%02x #$12", "NOP.%02X $12,X", "NOP.%02x $1234,Y", "JAM.%02x", "SBC.%02X #$12", "BNE.%02x $1234", "ANC.%02X #$FF", "LDA.%02x ($12),Y"} {
			holdRead(t, fmt.Sprintf(begin, code), 0x1200)
		}
	}
}

func TestReadOfEveryTarget(t *testing.T) {
	for _, pc := range pcs {
		near := 0
		for target := range 65536 {
			got, e, place := isa.Read(fmt.Sprintf("bcs $%04x", target), pc)
			far := (target - int(pc) - 2 + 131072) % 65536 // from 0 on
			if far < 128 || far >= 65408 {
				near++
				if e != api.OK || place != 0 || !bytes.Equal(got, []byte{0xb0, uint8(far)}) {
					t.Fatalf("P4.6: a branch at %04x to %04x: % x, %d, %d", pc, target, got, e, place)
				}
			} else if got != nil || e != api.ErrRange || place != 4 {
				t.Fatalf("P4.6: a branch at %04x to %04x: % x, %d, %d", pc, target, got, e, place)
			}
		}
		if near != 256 {
			t.Errorf("P4.6: from %04x a branch reaches %d targets", pc, near)
		}
	}
}

func TestReadOfAnything(t *testing.T) {
	r := rand.New(rand.NewSource(4))
	pieces := append(strings.Split("|.|.|.EA|.9B|.eb| | |  |A|#|$|12|aF|1234|,X|,Y|,x|(|)|X|Y|\x00|\xff|\u0131|\u017f|#$|($|),Y|,X)", "|"), names...)
	for range 20000 {
		line := names[r.Intn(len(names))]
		if r.Intn(8) == 0 {
			line = ""
		}
		for range r.Intn(6) {
			line += pieces[r.Intn(len(pieces))]
		}
		holdRead(t, mixed(r, line), uint16(0x1200+r.Intn(100)))
	}
}

func TestThereAndBack(t *testing.T) {
	r := rand.New(rand.NewSource(7))
	back := func(code []byte, pc uint16) {
		line := lineOf(t, code, pc)
		want := code[:toldLen(code[0])]
		for _, l := range []string{line, strings.ToLower(line), mixed(r, line)} {
			if got, e, place := isa.Read(l, pc); !bytes.Equal(got, want) || e != api.OK || place != 0 {
				t.Fatalf("P4.7: % x at %04x is %q, which is % x, %d, %d", want, pc, l, got, e, place)
			}
		}
	}
	for i := range 256 {
		for b := range 256 {
			back([]byte{uint8(i), uint8(b), uint8(r.Intn(256))}, pcs[r.Intn(len(pcs))])
			back([]byte{uint8(i), uint8(r.Intn(256)), uint8(b)}, uint16(r.Intn(65536)))
		}
	}
	for _, pc := range pcs {
		for b := range 256 {
			back([]byte{0x70, uint8(b)}, pc)
		}
	}
	for pc := range 65536 {
		back([]byte{0x90, uint8(pc * 5)}, uint16(pc))
		back([]byte{0x9e, uint8(pc), uint8(pc >> 8)}, 0)
	}
}

func TestBackAndThere(t *testing.T) {
	r := rand.New(rand.NewSource(8))
	for range 60000 {
		code := uint8(r.Intn(256))
		pc := pcs[r.Intn(len(pcs))]
		line, _ := toldLine([]byte{code, uint8(r.Intn(256)), uint8(r.Intn(256))}, pc)
		if len(line) > 3 && line[3] != '.' && r.Intn(2) == 0 {
			line = line[:3] + fmt.Sprintf(".%02X", code) + line[3:] // a point where Line puts none
		}
		got, e, _ := isa.Read(mixed(r, line), pc)
		if e != api.OK {
			t.Fatalf("P4.7: Read(%q, %04x) gives the error %d", line, pc, e)
		}
		again, f, _ := isa.Read(lineOf(t, got, pc), pc)
		if f != api.OK || !bytes.Equal(again, got) {
			t.Fatalf("P4.7: %q is % x, and that again % x, %d", line, got, again, f)
		}
	}
}

func TestReadGivesNewMemory(t *testing.T) {
	for _, line := range []string{"NOP", "LDA #$12", "STA $1234,X", "BEQ $0010"} {
		one, e, _ := isa.Read(line, 0)
		two, _, _ := isa.Read(line, 0)
		want, _, _ := toldRead(line, 0)
		spoil(one, 0xee)
		if three, _, _ := isa.Read(line, 0); e != api.OK || !bytes.Equal(two, want) || !bytes.Equal(three, want) {
			t.Errorf("P4.8: Read(%q) is not new memory: % x, % x", line, two, three)
		}
	}
}

// What calls answer hangs on their arguments alone: not on the calls ahead of them, nor on those beside them.
func TestCallsSideBySide(t *testing.T) {
	ask := func(code uint8) string {
		needs, sets := isa.Flags(code)
		in := isa.Decode(code)
		best, e := isa.Encode(in.Op, in.Mode)
		line, f := isa.Line([]byte{code, 0x10, code}, 0x8000)
		read, g, place := isa.Read(line, 0x8000)
		return fmt.Sprint(in, isa.Name(in.Op), needs, sets, best, e, isa.Shape(code, true, true), isa.Cycles(code, true, true), line, f, read, g, place)
	}
	var alone [256]string
	for code := range 256 {
		alone[code] = ask(uint8(code))
	}
	var all sync.WaitGroup
	for w := range 8 {
		all.Go(func() {
			for i := range 256 {
				code := uint8(i*37 + w*11)
				if got := ask(code); got != alone[code] {
					t.Errorf("P4.8: %02x: %s, and alone %s", code, got, alone[code])
				}
			}
		})
	}
	all.Wait()
}
