package xlate_test

import (
	"slices"
	"testing"

	"tandem/api"
	"tandem/xlate"
)

// sum is LDA #$05, ADC #$03, JMP $0200, and a byte behind them.
var sum = []uint8{0xa9, 0x05, 0x69, 0x03, 0x4c, 0x00, 0x02, 0x00}

// The chapter's examples of Translate.
func TestExamplesOfTranslate(t *testing.T) {
	b := made(t, 0x0200, api.TagRam, 64, sum...)
	want := api.Block{PC: 0x0200, Tag: 128, Bytes: string(sum[:7]), Insts: 3, Least: 7, Most: 7, Ops: []api.Micro{
		{Kind: api.MicroConst, Op: api.OpLDA, Mode: api.ModeImm, Arg: 0x05, Inst: 0, Cycle: 0},
		{Kind: api.MicroAlu, Op: api.OpLDA, Mode: api.ModeImm, Flags: 0, Inst: 0, Cycle: 0},
		{Kind: api.MicroConst, Op: api.OpADC, Mode: api.ModeImm, Arg: 0x03, Inst: 1, Cycle: 2},
		{Kind: api.MicroAlu, Op: api.OpADC, Mode: api.ModeImm, Flags: 0xc3, Inst: 1, Cycle: 2},
		{Kind: api.MicroJump, Op: api.OpJMP, Mode: api.ModeAbs, Arg: 0x0200, Inst: 2, Cycle: 4},
	}}
	sameBlock(t, "the first example", b, want)

	for _, c := range []struct {
		pc    uint16
		tag   int
		code  []uint8
		e     api.Errno
		insts int
	}{
		{0x0200, api.TagRam, []uint8{0x18}, api.OK, 0},
		{0x0200, api.TagRam, []uint8{0x18, 0xea}, api.OK, 1},
		{0x01fd, api.TagRam, []uint8{0x20, 0x00, 0x03, 0xea}, api.OK, 0},
		{0x8000, 0, []uint8{0x58, 0xea, 0xea}, api.OK, 0},
		{0x9ffe, 3, []uint8{0xad, 0x00}, api.OK, 0},
		{0x9ffe, 3, []uint8{0xad, 0x00, 0x02}, api.ErrCode, 0},
		{0x8000, 128, []uint8{0xea, 0xea}, api.ErrArg, 0},
	} {
		b, e := xlate.Translate(c.pc, c.tag, c.code, 64)
		if e != c.e || b.Insts != c.insts || len(b.Ops) != c.insts {
			t.Errorf("Translate($%04X, %d, % X, 64): error %d, %d instructions, want %d, %d", c.pc, c.tag, c.code, e, b.Insts, c.e, c.insts)
		}
	}
	if b := made(t, 0x0200, api.TagRam, 64, 0x18, 0xea); b.Bytes != "\x18" || b.Ops[0].Op != api.OpCLC {
		t.Errorf("18 EA: %+v, want CLC", b)
	}
}

// The chapter's examples of Eval.
func TestExamplesOfEval(t *testing.T) {
	o := evaluated(t, inRam(0x0200, 0xa9, 0x05, 0x8d, 0x02, 0x20, 0x00), api.Regs{P: 0x20, PC: 0x0200}, 2)
	outcome(t, "A9 05 8D 02 20", o, api.Outcome{Regs: api.Regs{A: 5, P: 0x20, PC: 0x0202}, Open: 5, Cycles: 2, Insts: 1, Left: api.LeftGuard})

	ram := inRam(0x0200, 0xa9, 0xea, 0x8d, 0x05, 0x02, 0xa2, 0x07, 0xe8, 0x00)
	o = evaluated(t, ram, api.Regs{P: 0x20, PC: 0x0200}, 64)
	outcome(t, "A9 EA 8D 05 02 A2 07 E8", o, api.Outcome{Regs: api.Regs{A: 0xea, P: 0xa0, PC: 0x0205}, Open: 0xea, Cycles: 6, Insts: 2, Left: api.LeftStore})
	ram[0x205] = 0xea
	if o.Ram != ram {
		t.Errorf("A9 EA 8D 05 02 A2 07 E8: the RAM behind the block is another one: $0205 is %02X", o.Ram[0x205])
	}
}

// The chapter's example of Text.
func TestExampleOfText(t *testing.T) {
	want := []string{"block $0200 tag 128 insts 3 cycles 7 7", "0 +0 const LDA $0005", "0 +0 alu LDA", "1 +2 const ADC $0003", "1 +2 alu ADC NVZC", "2 +4 jump JMP $0200"}
	if l := lines(xlate.Text(made(t, 0x0200, api.TagRam, 64, sum...))); !slices.Equal(l, want) {
		t.Errorf("P13.9: %q, want %q", l, want)
	}
}
