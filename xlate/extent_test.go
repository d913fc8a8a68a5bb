package xlate_test

import (
	"fmt"
	"slices"
	"testing"

	"tandem/api"
	"tandem/isa"
	"tandem/xlate"
)

// taken asks how many instructions and bytes a block has.
func taken(t *testing.T, what string, b api.Block, insts, bytes int) {
	t.Helper()
	if b.Insts != insts || len(b.Bytes) != bytes {
		t.Errorf("P13.2: %s: %d instructions in %d bytes, want %d in %d", what, b.Insts, len(b.Bytes), insts, bytes)
	}
}

// neverIn is the operations that stand in no block.
var neverIn = []api.Op{api.OpCLI, api.OpSEI, api.OpPLP, api.OpRTI, api.OpBRK, api.OpJAM}

// lastIn is the operations behind which a block ends.
var lastIn = []api.Op{api.OpBCC, api.OpBCS, api.OpBEQ, api.OpBMI, api.OpBNE, api.OpBPL, api.OpBVC, api.OpBVS, api.OpJMP, api.OpJSR, api.OpRTS}

// Every opcode as a block's only instruction, as its first one, and behind another one; with its last byte cut off, the byte behind it cut off, and whole.
func TestEveryOpcodeIsTaken(t *testing.T) {
	for code := range 256 {
		i := isa.Decode(uint8(code))
		in, ends := !slices.Contains(neverIn, i.Op), slices.Contains(lastIn, i.Op)
		bytes := []uint8{uint8(code), 0x10, 0x02}[:i.Len]
		for ahead := range 2 {
			front := []uint8{0xe8}[:ahead]
			one := 0
			if in {
				one = 1
			}
			name := fmt.Sprintf("%02X behind %d others", code, ahead)
			whole := append(append(slices.Clone(front), bytes...), 0xe8, 0xe8, 0x00)
			want := ahead + one
			if in && !ends {
				want += 2
			}
			taken(t, name, made(t, 0x8000, 0, 64, whole...), want, ahead+one*i.Len+want-ahead-one)
			taken(t, name+", limit", made(t, 0x8000, 0, 1+ahead, whole...), ahead+one, ahead+one*i.Len)
			enough := ahead + i.Len + 1
			taken(t, name+" and one byte", made(t, 0x8000, 0, 64, whole[:enough]...), ahead+one, ahead+one*i.Len)
			taken(t, name+" and no byte", made(t, 0x8000, 0, 64, whole[:enough-1]...), ahead, ahead)
			left := min(ahead, i.Len-1) // of a single byte nothing is left that could lie behind the INX
			taken(t, name+" with a byte cut off", made(t, 0x8000, 0, 64, whole[:enough-2]...), left, left)
		}
	}
}

// The last bytes of each kind of window: the instruction whose byte behind it is the window's last one is taken in, the next one is not.
func TestWindowsEnds(t *testing.T) {
	for _, c := range []struct {
		end  int
		tags []int
	}{{0x0800, []int{128}}, {0x1000, []int{128}}, {0x2000, []int{128}}, {0x8000, []int{129}}, {0xa000, []int{0, 127}}, {0x10000, []int{3}}} {
		for _, tag := range c.tags {
			for _, x := range []struct{ code, insts, bytes int }{{0xea, 4, 4}, {0xa9, 2, 4}, {0xad, 1, 3}} {
				pc := c.end - 5
				code := slices.Repeat([]uint8{uint8(x.code)}, 5)
				taken(t, fmt.Sprintf("five times %02X up to $%04X, tag %d", x.code, c.end, tag), made(t, uint16(pc), tag, 64, code...), x.insts, x.bytes)
			}
			taken(t, "a window's last byte", made(t, uint16(c.end-1), tag, 64, 0xea), 0, 0)
			taken(t, "a window's last two bytes", made(t, uint16(c.end-2), tag, 64, 0xea, 0xea), 1, 1)
			taken(t, "a window's last four bytes", made(t, uint16(c.end-4), tag, 64, 0xad, 0, 2, 0), 1, 3)
			taken(t, "a window's last three bytes", made(t, uint16(c.end-3), tag, 64, 0xad, 0, 2), 0, 0)
		}
	}
}

// A JSR whose third byte lies in the stack's page, in RAM or one of its mirrors, and elsewhere.
func TestCallsInTheStack(t *testing.T) {
	for pc := 0; pc < 0x2000; pc++ {
		if pc%0x800 > 0x7fc {
			continue
		}
		want := 1
		if third := (pc + 2) & 0x7ff; third>>8 == 1 {
			want = 0
		}
		taken(t, fmt.Sprintf("JSR at $%04X", pc), made(t, uint16(pc), api.TagRam, 64, 0x20, 0, 3, 0xea), want, 3*want)
	}
	for _, pc := range []uint16{0x6100, 0x61fd, 0x6900, 0x7100} {
		taken(t, "JSR in work RAM", made(t, pc, api.TagWork, 64, 0x20, 0, 3, 0xea), 1, 3)
	}
	for _, pc := range []uint16{0x8100, 0x81fd, 0xe900, 0xf1f0} {
		taken(t, "JSR in PRG", made(t, pc, 0, 64, 0x20, 0, 3, 0xea), 1, 3)
	}
	for _, c := range []struct { // the third byte lies four behind the first NOP
		pc           uint16
		insts, bytes int
	}{{0x00fb, 3, 5}, {0x00fc, 2, 2}, {0x01fb, 2, 2}, {0x01fc, 3, 5}, {0x08fb, 3, 5}, {0x08fc, 2, 2}, {0x19fb, 2, 2}, {0x19fc, 3, 5}} {
		taken(t, fmt.Sprintf("NOP, NOP, JSR at $%04X", c.pc), made(t, c.pc, api.TagRam, 64, 0xea, 0xea, 0x20, 0, 3, 0xea), c.insts, c.bytes)
	}
	for _, code := range []uint8{0x4c, 0x6c, 0xad, 0x8d} { // no pushes, no fear
		taken(t, "another one in the stack's page", made(t, 0x0150, api.TagRam, 1, code, 0, 3, 0xea), 1, 3)
	}
}

// A block has at most limit instructions.
func TestBlocksOfLimit(t *testing.T) {
	code := slices.Repeat([]uint8{0xe8}, 100)
	for limit := 1; limit <= 64; limit++ {
		taken(t, fmt.Sprintf("a hundred INX, limit %d", limit), made(t, 0x8000, 0, limit, code...), limit, limit)
	}
	taken(t, "64 INX and a byte", made(t, 0x8000, 0, 64, code[:65]...), 64, 64)
	taken(t, "64 INX", made(t, 0x8000, 0, 64, code[:64]...), 63, 63)
	whole := append(slices.Repeat([]uint8{0xe8}, 63), 0x4c, 0, 2, 0)
	taken(t, "63 INX and JMP", made(t, 0x8000, 0, 64, whole...), 64, 66)
	taken(t, "63 INX", made(t, 0x8000, 0, 63, whole...), 63, 63)
}

// Least and Most.
func TestCycles(t *testing.T) {
	for _, c := range []struct {
		lines       string
		pc          uint16
		least, most int
	}{
		{"NOP", 0x8000, 2, 2}, {"LDA #$12", 0x8000, 2, 2}, {"PHA", 0x8000, 3, 3}, {"PLA", 0x8000, 4, 4}, {"JSR $1234", 0x8000, 6, 6}, {"RTS", 0x8000, 6, 6},
		{"JMP $1234", 0x8000, 3, 3}, {"JMP ($1234)", 0x8000, 5, 5},
		{"LDA $12", 0x8000, 3, 3}, {"LDA $12,X", 0x8000, 4, 4}, {"LDX $12,Y", 0x8000, 4, 4}, {"LDA $1234", 0x8000, 4, 4}, {"LDA ($12,X)", 0x8000, 6, 6},
		{"LDA $1234,X", 0x8000, 4, 5}, {"LDA $1234,Y", 0x8000, 4, 5}, {"LDA ($12),Y", 0x8000, 5, 6}, {"NOP.1C $1234,X", 0x8000, 4, 5}, {"LAS $1234,Y", 0x8000, 4, 5},
		{"STA $1234,X", 0x8000, 5, 5}, {"STA ($12),Y", 0x8000, 6, 6}, {"INC $1234,X", 0x8000, 7, 7}, {"SLO ($12),Y", 0x8000, 8, 8}, {"SLO ($12,X)", 0x8000, 8, 8},
		{"NOP.9C $1234,X", 0x8000, 5, 5}, {"NOP.9B $1234,Y", 0x8000, 5, 5}, {"NOP.93 ($12),Y", 0x8000, 6, 6},
		{"BNE $8002", 0x8000, 2, 3}, {"BNE $8081", 0x8000, 2, 3}, {"BNE $8000", 0x8000, 2, 3}, {"BNE $7FFF", 0x8000, 2, 4}, {"BNE $80FF", 0x80f0, 2, 3}, {"BNE $8100", 0x80f0, 2, 4},
		{"BNE $8100", 0x80fe, 2, 3}, {"BNE $80FF", 0x80fe, 2, 4}, {"BNE $0010", 0xfff0, 2, 4}, {"BNE $0000", 0xfff0, 2, 4}, {"BNE $FFF0", 0xfff0, 2, 3},
		{"LDA $1234,X; STA $1234,X; LDA ($12),Y; BNE $8000", 0x8000, 4 + 5 + 5 + 2, 5 + 5 + 6 + 3},
	} {
		b := made(t, c.pc, 0, 64, append(codes(t, c.pc, c.lines), 0)...)
		if b.Least != c.least || b.Most != c.most {
			t.Errorf("P13.2: %s at $%04X: %d to %d cycles, want %d to %d", c.lines, c.pc, b.Least, b.Most, c.least, c.most)
		}
	}
	b := made(t, 0x0002, api.TagRam, 64, 0xd0, 0xf0, 0) // a branch below address 0
	if b.Least != 2 || b.Most != 4 || b.Ops[0].Arg != 0xfff4 {
		t.Errorf("P13.2: BNE from $0002 to $FFF4: %d to %d cycles, target $%04X", b.Least, b.Most, b.Ops[0].Arg)
	}
}

// An empty block.
func TestEmptyBlocks(t *testing.T) {
	for _, code := range [][]uint8{nil, {}, {0xea}, {0xa9}, {0xa9, 5}, {0xad, 0, 2}, {0x00, 0xea}, {0x02, 0xea}, {0x28, 0xea}, {0x40, 0xea}, {0x58, 0xea}, {0x78, 0xea}} {
		b, e := xlate.Translate(0x0234, api.TagRam, code, 64)
		if e != api.OK || b.PC != 0x0234 || b.Tag != api.TagRam || b.Bytes != "" || b.Insts != 0 || len(b.Ops) != 0 || b.Least != 0 || b.Most != 0 {
			t.Errorf("P13.2: % X: error %d, %+v, want an empty block", code, e, b)
		}
	}
}

// What is handed in is neither changed nor kept, and no two answers share anything.
func TestBlocksAreNew(t *testing.T) {
	code := slices.Clone(sum)
	a := made(t, 0x0200, api.TagRam, 64, code...)
	b := made(t, 0x0200, api.TagRam, 64, code...)
	if !slices.Equal(code, sum) {
		t.Errorf("P2: Translate has changed the code: % X", code)
	}
	clear(code)
	ops := slices.Clone(a.Ops)
	clear(b.Ops[:cap(b.Ops)])
	b.Ops = append(b.Ops[:1], api.Micro{Op: 99}, api.Micro{Op: 99})
	if a.Bytes != string(sum[:7]) || !slices.Equal(a.Ops, ops) {
		t.Errorf("P2: a block changes with its code or with another block: %+v", a)
	}
}
