package asm_test

import (
	"bytes"
	"fmt"
	"math/rand"
	"slices"
	"strconv"
	"strings"
	"testing"

	"tandem/api"
	"tandem/asm"
	"tandem/isa"
)

func itoa(n int) string { return strconv.Itoa(n) }

func TestDisassembleByHand(t *testing.T) {
	for _, c := range []struct {
		code string
		org  uint16
		want string
	}{
		{"A9 10 82 00 D0", 0xc000, "\t.org $C000\n\tLDA #$10\n\t.byte $82\n\tBRK\n\t.byte $D0\n"},
		{"EA", 0, "\t.org $0000\n\tNOP\n"}, {"EA", 0xffff, "\t.org $FFFF\n\tNOP\n"}, {"AD 12", 0x0abc, "\t.org $0ABC\n\t.byte $AD\n\t.byte $12\n"},
		{"1A EB 02 12 44 04", 9, "\t.org $0009\n\t.byte $1A\n\t.byte $EB\n\tJAM\n\t.byte $12\n\t.byte $44\n\t.byte $04\n"}, {"9B 93 8B 0B 05 2B", 9, "\t.org $0009\n\t.byte $9B\n\t.byte $93\n\t.byte $8B\n\tANC #$05\n\t.byte $2B\n"},
		{"AD 12 00 A5 12 BD 12 00 0A B6 05 BE 05 00 6C 34 12", 0x8000, "\t.org $8000\n\tLDA $0012\n\tLDA $12\n\tLDA $0012,X\n\tASL A\n\tLDX $05,Y\n\tLDX $0005,Y\n\tJMP ($1234)\n"}, {"D0 FE 10 00 30 80", 0xfffa, "\t.org $FFFA\n\tBNE $FFFA\n\tBPL $FFFE\n\tBMI $FF80\n"}, {"D0 7F", 0xfffe, "\t.org $FFFE\n\tBNE $007F\n"}, {"A1 0F B1 F0", 0, "\t.org $0000\n\tLDA ($0F,X)\n\tLDA ($F0),Y\n"},
	} {
		if got := asm.Disassemble(hexBytes(c.code), c.org); got != c.want {
			t.Errorf("5.8: %q, want %q", got, c.want)
		}
	}
}

func TestDisassembleOfNothing(t *testing.T) {
	for _, none := range [][]byte{nil, {}, make([]byte, 0, 5)} {
		for _, org := range []uint16{0, 5, 0xffff} {
			if got := asm.Disassemble(none, org); got != "" {
				t.Errorf("5.8: no bytes: %q", got)
			}
		}
	}
	for _, c := range []struct {
		n    int
		org  uint16
		fits bool
	}{{1, 0xffff, true}, {2, 0xffff, false}, {65536, 0, true}, {65537, 0, false}, {65536, 1, false}, {65535, 1, true}, {256, 0xff00, true}, {257, 0xff00, false}, {1 << 20, 0, false}, {131072, 0xffff, false}} {
		got := asm.Disassemble(make([]byte, c.n), c.org)
		want := 0
		if c.fits {
			want = len("\t.org $0000\n") + c.n*len("\tBRK\n")
		}
		if len(got) != want {
			t.Errorf("5.8: %d bytes at %04x: a text of %d bytes, want %d", c.n, c.org, len(got), want)
		}
	}
}

// toldText is the text of bytes, by the chapter's words.
func toldText(code []byte, org uint16) string {
	lines := []string{fmt.Sprintf("\t.org $%04X\n", org)}
	for at := 0; at < len(code); {
		in := isa.Decode(code[at])
		best, e := isa.Encode(in.Op, in.Mode)
		if at+in.Len > len(code) || e != api.OK || best != code[at] {
			lines = append(lines, fmt.Sprintf("\t.byte $%02X\n", code[at]))
			at++
			continue
		}
		text, _ := isa.Line(code[at:at+in.Len], uint16(int(org)+at))
		lines = append(lines, "\t"+text+"\n")
		at += in.Len
	}
	return strings.Join(lines, "")
}

// back asks for a text's bytes.
func back(t *testing.T, code []byte, org uint16) {
	t.Helper()
	was := slices.Clone(code)
	text := asm.Disassemble(code, org)
	if !bytes.Equal(code, was) {
		t.Fatalf("5.8: Disassemble changed its bytes")
	}
	if want := toldText(code, org); text != want {
		t.Fatalf("5.8: % x at %04x: %q, want %q", code[:min(len(code), 20)], org, text, want)
	}
	if len(text) > api.MaxSource {
		return
	}
	o, err := asm.Assemble(text)
	if len(code) > 8192 {
		if !is(err, asm.ErrOver) {
			t.Errorf("P17: %d bytes: %v", len(code), err)
		}
		return
	}
	if err != nil || len(o.Segs) != 1 || o.Segs[0].Bank != 0 || o.Segs[0].Org != int(org) || !bytes.Equal(o.Segs[0].Data, code) || len(o.Syms) != 0 || o.Head != (api.Head{Prg: 1}) {
		t.Errorf("P17: %d bytes at %04x: %v", len(code), org, err)
	}
}

func TestThereAndBack(t *testing.T) {
	for i := range 256 {
		for _, b := range [][]byte{{byte(i)}, {byte(i), 0x12}, {byte(i), 0x12, 0x34}, {byte(i), 0xfe, 0}, {byte(i), 0, 0}, {byte(i), 0xff, 0xff}, {byte(i), 0x80, byte(i), 0x7f}} {
			for _, org := range []uint16{0, 1, 0x7f, 0x80, 0x1ffe, 0x8000, 0xff7f, 0xff80, 0xfffc} {
				back(t, b, org)
			}
		}
	}
	r := rand.New(rand.NewSource(5))
	for range 300 {
		code := make([]byte, 1+r.Intn(600))
		r.Read(code)
		back(t, code, uint16(r.Intn(65537-len(code))))
	}
	for _, n := range []int{5000, 8191, 8192, 8193, 9000, 65536} {
		back(t, make([]byte, n), 0)
		back(t, bytes.Repeat([]byte{0xad, 0x12, 0x00}, n)[:n], uint16(65536-n))
		back(t, bytes.Repeat([]byte{0xd0}, n), 0)
	}
}
