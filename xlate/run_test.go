package xlate_test

import (
	"fmt"
	"slices"
	"strings"
	"testing"

	"tandem/alu"
	"tandem/api"
	"tandem/isa"
	"tandem/xlate"
)

// scene is a block at $8000 on a console's memory, and what Run answers. Its Open is $77 ahead of the block.
type scene struct {
	lines  string
	r      api.Regs
	mem    map[uint16]uint8
	want   api.Outcome
	stores []touch
}

// play asks for what a scene wants.
func (s scene) play(t *testing.T, pc uint16) {
	t.Helper()
	l := console()
	code := codes(t, pc, s.lines)
	l.put(pc, code...)
	for addr, v := range s.mem {
		l.put(addr, v)
	}
	b := blockAt(t, l, pc, strings.Count(s.lines, ";")+1)
	if b.Bytes != string(code) {
		t.Fatalf("P13.2: %s: the block has % X, want % X", s.lines, b.Bytes, code)
	}
	s.r.PC = 0x4321 // b.PC counts alone
	outcome(t, "P13.5: "+s.lines, xlate.Run(b, s.r, 0x77, l), s.want)
	if !slices.Equal(l.stores, s.stores) {
		t.Errorf("P13.5: %s: stores %+v, want %+v", s.lines, l.stores, s.stores)
	}
}

// end, guard and store are an Outcome by its ways of being left.
func end(r api.Regs, open uint8, cycles, insts int) api.Outcome {
	return api.Outcome{Regs: r, Open: open, Cycles: cycles, Insts: insts, Left: api.LeftEnd}
}

func guard(r api.Regs, open uint8, cycles, insts int) api.Outcome {
	return api.Outcome{Regs: r, Open: open, Cycles: cycles, Insts: insts, Left: api.LeftGuard}
}

type bytes = map[uint16]uint8

func TestPlainInstructions(t *testing.T) {
	for _, s := range []scene{
		{lines: "INX", r: api.Regs{X: 0xff, P: 0x20}, mem: bytes{0x8001: 0x5a}, want: end(api.Regs{P: 0x22, PC: 0x8001}, 0x5a, 2, 1)},
		{lines: "ASL A", r: api.Regs{A: 0x81, P: 0x20}, mem: bytes{0x8001: 0x5a}, want: end(api.Regs{A: 2, P: 0x21, PC: 0x8001}, 0x5a, 2, 1)},
		{lines: "LDA #$80", r: api.Regs{P: 0x20}, mem: bytes{0x8002: 0x5a}, want: end(api.Regs{A: 0x80, P: 0xa0, PC: 0x8002}, 0x80, 2, 1)},
		{lines: "NOP.80 #$9C", r: api.Regs{A: 3, P: 0x20}, mem: bytes{0x8002: 0x5a}, want: end(api.Regs{A: 3, P: 0x20, PC: 0x8002}, 0x9c, 2, 1)},
		{lines: "NOP", r: api.Regs{A: 1, X: 2, Y: 3, S: 4, P: 0xff}, want: end(api.Regs{A: 1, X: 2, Y: 3, S: 4, P: 0xff, PC: 0x8001}, 0, 2, 1)},
		{lines: "SED; LDA #$19; ADC #$28", r: api.Regs{P: 0x20}, want: end(api.Regs{A: 0x47, P: 0x28, PC: 0x8005}, 0x28, 6, 3)},
		{lines: "LDA #$00; CLC; CLV", r: api.Regs{P: 0x41}, mem: bytes{0x8004: 0x99}, want: end(api.Regs{P: 0x02, PC: 0x8004}, 0x99, 6, 3)},
	} {
		s.play(t, 0x8000)
	}
}

// The operand's address in each mode, and what a page's end does to it.
func TestModes(t *testing.T) {
	r := api.Regs{X: 0x20, Y: 0x30, P: 0x20}
	for _, c := range []struct {
		line   string
		e      uint16
		cycles int
	}{
		{"$10", 0x0010, 3}, {"$F0", 0x00f0, 3}, {"$10,X", 0x0030, 4}, {"$F0,X", 0x0010, 4}, {"$E0,X", 0x0000, 4}, {"$0312", 0x0312, 4}, {"$1FFF", 0x1fff, 4}, {"$6000", 0x6000, 4}, {"$9000", 0x9000, 4},
		{"$0310,X", 0x0330, 4}, {"$03F0,X", 0x0410, 5}, {"$03DF,X", 0x03ff, 4}, {"$03E0,X", 0x0400, 5}, {"$FFF0,X", 0x0010, 5}, {"$7FF0,X", 0x8010, 5},
		{"$0310,Y", 0x0340, 4}, {"$03F0,Y", 0x0420, 5}, {"$FFF0,Y", 0x0020, 5},
		{"($40,X)", 0x0345, 6}, {"($F0,X)", 0x0346, 6}, {"($DF,X)", 0x0347, 6},
		{"($41),Y", 0x0375, 5}, {"($FF),Y", 0x0377, 5}, {"($45),Y", 0x0427, 6}, {"($43),Y", 0x0020, 6},
	} {
		for _, name := range []string{"LDA", "LAX"} {
			if name == "LAX" && strings.HasSuffix(c.line, ",X") && !strings.HasPrefix(c.line, "(") {
				continue // it has no such mode
			}
			s := scene{lines: name + " " + c.line, r: r, mem: bytes{0x60: 0x45, 0x61: 0x03, 0x10: 0x46, 0x11: 0x03, 0xff: 0x47, 0x00: 0x03, 0x41: 0x45, 0x42: 0x03, 0x43: 0xf0, 0x44: 0xff, 0x45: 0xf7, 0x46: 0x03}}
			v := uint8(0x99)
			if old, ok := s.mem[c.e]; ok {
				v = old
			}
			s.mem[c.e] = v
			want := r
			want.A, want.PC = v, 0x8000+uint16(len(codes(t, 0x8000, s.lines)))
			if name == "LAX" {
				want.X = v
			}
			want.P = alu.Nz(v, 0x20)
			s.want = end(want, v, c.cycles, 1)
			s.play(t, 0x8000)
		}
	}
	for line, e := range map[string]uint16{"LDX $10,Y": 0x40, "LDX $F0,Y": 0x20, "LDX $D0,Y": 0x00} {
		scene{lines: line, r: r, mem: bytes{e: 0x7e}, want: end(api.Regs{X: 0x7e, Y: 0x30, P: 0x20, PC: 0x8002}, 0x7e, 4, 1)}.play(t, 0x8000)
	}
}

// Instructions that write: once, and the last access is the write.
func TestWrites(t *testing.T) {
	r := api.Regs{A: 0xf0, X: 0x3c, Y: 0x20, P: 0x20}
	at := func(pc uint16, p uint8) api.Regs {
		x := r
		x.PC, x.P = pc, p
		return x
	}
	for _, s := range []scene{
		{lines: "STA $10", r: r, want: end(at(0x8002, 0x20), 0xf0, 3, 1), stores: []touch{{0x10, true, 0xf0}}},
		{lines: "STX $F0,Y", r: r, want: end(at(0x8002, 0x20), 0x3c, 4, 1), stores: []touch{{0x10, true, 0x3c}}},
		{lines: "STY $6000", r: r, want: end(at(0x8003, 0x20), 0x20, 4, 1), stores: []touch{{0x6000, true, 0x20}}},
		{lines: "SAX $1800", r: r, want: end(at(0x8003, 0x20), 0x30, 4, 1), stores: []touch{{0x1800, true, 0x30}}},
		{lines: "STA $0300,X", r: r, want: end(at(0x8003, 0x20), 0xf0, 5, 1), stores: []touch{{0x33c, true, 0xf0}}},
		{lines: "STA $03F0,X", r: r, want: end(at(0x8003, 0x20), 0xf0, 5, 1), stores: []touch{{0x42c, true, 0xf0}}},
		{lines: "STA ($10),Y", r: r, mem: bytes{0x10: 0xf0, 0x11: 3}, want: end(at(0x8002, 0x20), 0xf0, 6, 1), stores: []touch{{0x410, true, 0xf0}}},
		{lines: "INC $10", r: r, mem: bytes{0x10: 0x7f}, want: end(at(0x8002, 0xa0), 0x80, 5, 1), stores: []touch{{0x10, true, 0x80}}},
		{lines: "LSR $03F0,X", r: r, mem: bytes{0x42c: 0x01}, want: end(at(0x8003, 0x23), 0x00, 7, 1), stores: []touch{{0x42c, true, 0x00}}},
		{lines: "DEC $7FFF", r: r, mem: bytes{0x7fff: 0x00}, want: end(at(0x8003, 0xa0), 0xff, 6, 1), stores: []touch{{0x7fff, true, 0xff}}},
	} {
		s.play(t, 0x8000)
	}
}

// A read for nothing leaves its byte on the bus, and nothing else.
func TestFillers(t *testing.T) {
	r := api.Regs{A: 1, X: 0x10, Y: 0x20, P: 0x20}
	for line, e := range map[string]uint16{"NOP.9C $0300,X": 0x310, "NOP.9C $03F8,X": 0x408, "NOP.9B $0300,Y": 0x320, "NOP.9E $03F8,Y": 0x418} {
		want := r
		want.PC = 0x8003
		scene{lines: line, r: r, mem: bytes{e: 0xd4}, want: end(want, 0xd4, 5, 1)}.play(t, 0x8000)
	}
	want := r
	want.PC = 0x8002
	scene{lines: "NOP.93 ($10),Y", r: r, mem: bytes{0x10: 0xf0, 0x11: 3, 0x410: 0xd4}, want: end(want, 0xd4, 6, 1)}.play(t, 0x8000)
}

// The stack: where it lies, and how S goes round.
func TestStack(t *testing.T) {
	for _, s := range []scene{
		{lines: "PHA", r: api.Regs{A: 9, S: 0xfd, P: 0x20}, want: end(api.Regs{A: 9, S: 0xfc, P: 0x20, PC: 0x8001}, 9, 3, 1), stores: []touch{{0x1fd, true, 9}}},
		{lines: "PHA", r: api.Regs{A: 9, S: 0x00, P: 0x20}, want: end(api.Regs{A: 9, S: 0xff, P: 0x20, PC: 0x8001}, 9, 3, 1), stores: []touch{{0x100, true, 9}}},
		{lines: "PHP", r: api.Regs{S: 0xfd, P: 0xc1}, want: end(api.Regs{S: 0xfc, P: 0xc1, PC: 0x8001}, 0xf1, 3, 1), stores: []touch{{0x1fd, true, 0xf1}}},
		{lines: "PLA", r: api.Regs{S: 0xfc, P: 0x20}, mem: bytes{0x1fd: 0x80, 0x1fc: 1}, want: end(api.Regs{A: 0x80, S: 0xfd, P: 0xa0, PC: 0x8001}, 0x80, 4, 1)},
		{lines: "PLA", r: api.Regs{A: 1, S: 0xff, P: 0x20}, mem: bytes{0x100: 0, 0x200: 7, 0x1ff: 7, 0x8001: 7}, want: end(api.Regs{S: 0, P: 0x22, PC: 0x8001}, 0, 4, 1)},
		{lines: "JSR $1234", r: api.Regs{S: 0xfd, P: 0x20}, want: end(api.Regs{S: 0xfb, P: 0x20, PC: 0x1234}, 0x12, 6, 1), stores: []touch{{0x1fd, true, 0x80}, {0x1fc, true, 0x02}}},
		{lines: "JSR $2002", r: api.Regs{S: 0x00, P: 0x20}, want: end(api.Regs{S: 0xfe, P: 0x20, PC: 0x2002}, 0x20, 6, 1), stores: []touch{{0x100, true, 0x80}, {0x1ff, true, 0x02}}},
		{lines: "RTS", r: api.Regs{S: 0xfd, P: 0x20}, mem: bytes{0x1fe: 0x34, 0x1ff: 0x12, 0x1234: 0x5b}, want: end(api.Regs{S: 0xff, P: 0x20, PC: 0x1235}, 0x5b, 6, 1)},
		{lines: "RTS", r: api.Regs{S: 0xfe, P: 0x20}, mem: bytes{0x1ff: 0xff, 0x100: 0xff, 0xffff: 0x5b}, want: end(api.Regs{S: 0x00, P: 0x20, PC: 0x0000}, 0x5b, 6, 1)},
		{lines: "RTS", r: api.Regs{S: 0xff, P: 0x20}, mem: bytes{0x100: 0xff, 0x101: 0x1f, 0x7ff: 0x5b}, want: end(api.Regs{S: 0x01, P: 0x20, PC: 0x2000}, 0x5b, 6, 1)},
		{lines: "RTS", r: api.Regs{S: 0xfd, P: 0x20}, mem: bytes{0x1fe: 0x00, 0x1ff: 0x80}, want: end(api.Regs{S: 0xff, P: 0x20, PC: 0x8001}, 0x60, 6, 1)},
		{lines: "PHA; PLA; TAX", r: api.Regs{A: 5, S: 0, P: 0x20}, want: end(api.Regs{A: 5, X: 5, S: 0, P: 0x20, PC: 0x8003}, 0, 9, 3), stores: []touch{{0x100, true, 5}}},
	} {
		s.play(t, 0x8000)
	}
	scene{lines: "JSR $1234", r: api.Regs{S: 0xfd, P: 0x20}, want: end(api.Regs{S: 0xfb, P: 0x20, PC: 0x1234}, 0x12, 6, 1), stores: []touch{{0x1fd, true, 0x81}, {0x1fc, true, 0x00}}}.play(t, 0x80fe)
}

// Jumps, also through a pointer at a page's end.
func TestJumps(t *testing.T) {
	r := api.Regs{A: 3, P: 0x20}
	at := func(pc uint16) api.Regs { return api.Regs{A: 3, P: 0x20, PC: pc} }
	for _, s := range []scene{
		{lines: "JMP $2002", r: r, want: end(at(0x2002), 0x20, 3, 1)},
		{lines: "JMP $8000", r: r, want: end(at(0x8000), 0x80, 3, 1)},
		{lines: "JMP ($0310)", r: r, mem: bytes{0x310: 0x02, 0x311: 0x20}, want: end(at(0x2002), 0x20, 5, 1)},
		{lines: "JMP ($03FF)", r: r, mem: bytes{0x3ff: 0x34, 0x300: 0x12, 0x400: 0x99}, want: end(at(0x1234), 0x12, 5, 1)},
		{lines: "JMP ($1FFF)", r: r, mem: bytes{0x7ff: 0x34, 0x700: 0x12, 0x2000: 0x99}, want: end(at(0x1234), 0x12, 5, 1)},
		{lines: "JMP ($FFFF)", r: r, mem: bytes{0xffff: 0x34, 0xff00: 0x12, 0x0000: 0x99}, want: end(at(0x1234), 0x12, 5, 1)},
		{lines: "JMP ($00FF)", r: r, mem: bytes{0x00ff: 0x34, 0x0000: 0x12, 0x0100: 0x99}, want: end(at(0x1234), 0x12, 5, 1)},
	} {
		s.play(t, 0x8000)
	}
}

// Branches: forwards and backwards, taken and not, into another page and not.
func TestBranches(t *testing.T) {
	for _, c := range []struct {
		pc     uint16
		to     uint16
		cycles int
		read   uint16 // of a branch that is taken
	}{
		{0x8010, 0x8020, 3, 0x8012}, {0x8010, 0x8012, 3, 0x8012}, {0x8010, 0x8000, 3, 0x8012}, {0x8010, 0x8010, 3, 0x8012},
		{0x80f0, 0x8100, 4, 0x8000}, {0x80f0, 0x8110, 4, 0x8010}, {0x8010, 0x7ff0, 4, 0x80f0}, {0x8010, 0x7fff, 4, 0x80ff},
		{0x80fe, 0x8110, 3, 0x8100}, {0x80fe, 0x80f0, 4, 0x81f0}, {0x80fd, 0x80ff, 3, 0x80ff}, {0x80fd, 0x8100, 4, 0x8000}, {0xfff0, 0x0010, 4, 0xff10},
	} {
		for op, flag := range map[string]uint8{"BCS": api.FlagC, "BEQ": api.FlagZ, "BMI": api.FlagN, "BVS": api.FlagV} {
			line := fmt.Sprintf("%s $%04X", op, c.to)
			opposite := fmt.Sprintf("%s $%04X", map[string]string{"BCS": "BCC", "BEQ": "BNE", "BMI": "BPL", "BVS": "BVC"}[op], c.to)
			for _, p := range []uint8{0x20 | flag, 0x20, 0xff, 0xff &^ flag} {
				set := p&flag != 0
				goes := end(api.Regs{P: p, PC: c.to}, 0x3d, c.cycles, 1)
				stays := end(api.Regs{P: p, PC: c.pc + 2}, uint8(c.to-c.pc-2), 2, 1)
				if !set {
					goes, stays = stays, goes
				}
				scene{lines: line, r: api.Regs{P: p}, mem: bytes{c.read: 0x3d}, want: goes}.play(t, c.pc)
				scene{lines: opposite, r: api.Regs{P: p}, mem: bytes{c.read: 0x3d}, want: stays}.play(t, c.pc)
			}
		}
	}
}

// Every opcode takes the cycles that isa tells, in all ways in which it may turn out.
func TestCyclesOfEveryOpcode(t *testing.T) {
	for code := range 256 {
		i := isa.Decode(uint8(code))
		for _, crossed := range []bool{false, true} {
			for _, p := range []uint8{0x20, 0xe3} {
				l := console()
				low := uint8(0x10)
				if crossed {
					low = 0xf0 // an index of $20 leads into the next page; as a distance it leads into the page ahead of this one
				}
				l.put(0x8000, uint8(code), low, 0x03)
				l.put(uint16(low), low, 0x03)
				l.put(0x01fe, 0x10, 0x03)
				b := blockAt(t, l, 0x8000, 1)
				if b.Insts == 0 {
					continue
				}
				o := xlate.Run(b, api.Regs{X: 0x20, Y: 0x20, S: 0xfd, P: p}, 0, l)
				if want := isa.Cycles(uint8(code), crossed, alu.Taken(i.Op, p)); o.Cycles != want || o.Insts != 1 || o.Left != api.LeftEnd {
					t.Errorf("P13.5: %02X, crossed %v, P %02X: %s, want %d cycles", code, crossed, p, short(o), want)
				}
			}
		}
	}
}
