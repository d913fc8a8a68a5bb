package xlate_test

import (
	"strings"
	"testing"

	"tandem/api"
	"tandem/xlate"
)

// A store that must leave the block: all of the instruction is done, and nothing behind it.
func TestLeftBehind(t *testing.T) {
	r := api.Regs{A: 0x41, X: 0x20, Y: 0x30, S: 0xfd, P: 0x20}
	for _, c := range []struct {
		lines string
		own   uint16
		want  api.Outcome
	}{
		{"STA $10; INX", 0x10, api.Outcome{Regs: api.Regs{A: 0x41, X: 0x20, Y: 0x30, S: 0xfd, P: 0x20, PC: 0x8002}, Open: 0x41, Cycles: 3, Insts: 1}},
		{"INX; STA $0B10; INX", 0x310, api.Outcome{Regs: api.Regs{A: 0x41, X: 0x21, Y: 0x30, S: 0xfd, P: 0x20, PC: 0x8004}, Open: 0x41, Cycles: 6, Insts: 2}},
		{"INC $0310,X; INX", 0x330, api.Outcome{Regs: api.Regs{A: 0x41, X: 0x20, Y: 0x30, S: 0xfd, P: 0x20, PC: 0x8003}, Open: 0x01, Cycles: 7, Insts: 1}},
		{"PHA; INX", 0x1fd, api.Outcome{Regs: api.Regs{A: 0x41, X: 0x20, Y: 0x30, S: 0xfc, P: 0x20, PC: 0x8001}, Open: 0x41, Cycles: 3, Insts: 1}},
		{"PHP; INX", 0x1fd, api.Outcome{Regs: api.Regs{A: 0x41, X: 0x20, Y: 0x30, S: 0xfc, P: 0x20, PC: 0x8001}, Open: 0x30, Cycles: 3, Insts: 1}},
		{"JSR $1234", 0x1fd, api.Outcome{Regs: api.Regs{A: 0x41, X: 0x20, Y: 0x30, S: 0xfb, P: 0x20, PC: 0x1234}, Open: 0x12, Cycles: 6, Insts: 1}},
		{"JSR $1234", 0x1fc, api.Outcome{Regs: api.Regs{A: 0x41, X: 0x20, Y: 0x30, S: 0xfb, P: 0x20, PC: 0x1234}, Open: 0x12, Cycles: 6, Insts: 1}},
		{"STA $7000", 0x7000, api.Outcome{Regs: api.Regs{A: 0x41, X: 0x20, Y: 0x30, S: 0xfd, P: 0x20, PC: 0x8003}, Open: 0x41, Cycles: 4, Insts: 1}},
	} {
		l := console()
		l.put(0x8000, append(codes(t, 0x8000, c.lines), 0xea)...)
		b := blockAt(t, l, 0x8000, strings.Count(c.lines, ";")+1)
		all := xlate.Run(b, r, 0x77, l.copied())
		if all.Left != api.LeftEnd || all.Insts != b.Insts {
			t.Errorf("P13.5: %s: %s, want all of it done where no store throws it away", c.lines, short(all))
		}
		l.own[c.own] = true
		c.want.Left = api.LeftStore
		outcome(t, "P13.5: "+c.lines, xlate.Run(b, r, 0x77, l), c.want)
	}
}

// Of two blocks done one behind the other the second one knows nothing of the first one's stores.
func TestBlocksOneBehindTheOther(t *testing.T) {
	l := console()
	l.put(0x8000, append(codes(t, 0x8000, "STA $10; INX; INX"), 0xea)...)
	l.own[0x10] = true
	b := blockAt(t, l, 0x8000, 3)
	for range 2 {
		if o := xlate.Run(b, api.Regs{}, 0, l); o.Left != api.LeftStore || o.Insts != 1 {
			t.Errorf("P13.5: %s", short(o))
		}
	}
	delete(l.own, 0x10)
	if o := xlate.Run(b, api.Regs{}, 0, l); o.Left != api.LeftEnd || o.Insts != 3 {
		t.Errorf("P13.5: %s", short(o))
	}
}

// Without a memory: nothing from $2000 on is plain, loads give 0, stores throw nothing away.
func TestWithoutMemory(t *testing.T) {
	r := api.Regs{A: 1, X: 2, Y: 3, S: 4, P: 0x20, PC: 0x1234}
	for _, c := range []struct {
		lines string
		want  api.Outcome
	}{
		{"LDA #$01; LDA $10; LDA $9000", guard(api.Regs{X: 2, Y: 3, S: 4, P: 0x22, PC: 0x8004}, 0, 5, 2)},
		{"STA $0300; INC $0300; PHA; INX", end(api.Regs{A: 1, X: 3, Y: 3, S: 3, P: 0x20, PC: 0x8008}, 0, 15, 4)},
		{"INC $0300", end(api.Regs{A: 1, X: 2, Y: 3, S: 4, P: 0x20, PC: 0x8003}, 1, 6, 1)},
		{"PHA", end(api.Regs{A: 1, X: 2, Y: 3, S: 3, P: 0x20, PC: 0x8001}, 1, 3, 1)},
		{"RTS", end(api.Regs{A: 1, X: 2, Y: 3, S: 6, P: 0x20, PC: 0x0001}, 0, 6, 1)},
		{"JMP ($1FFF)", end(api.Regs{A: 1, X: 2, Y: 3, S: 4, P: 0x20, PC: 0x0000}, 0, 5, 1)},
		{"LDX #$00; JMP ($2000)", guard(api.Regs{A: 1, Y: 3, S: 4, P: 0x22, PC: 0x8002}, 0, 2, 1)},
		{"BNE $7FF0", end(api.Regs{A: 1, X: 2, Y: 3, S: 4, P: 0x20, PC: 0x7ff0}, 0, 4, 1)},
		{"LDA ($10),Y", end(api.Regs{X: 2, Y: 3, S: 4, P: 0x22, PC: 0x8002}, 0, 5, 1)},
		{"STA $6000", guard(api.Regs{A: 1, X: 2, Y: 3, S: 4, P: 0x20, PC: 0x8000}, 0x77, 0, 0)},
		{"LDA $8000", guard(api.Regs{A: 1, X: 2, Y: 3, S: 4, P: 0x20, PC: 0x8000}, 0x77, 0, 0)},
		{"INX; STA $1FFF,X", guard(api.Regs{A: 1, X: 3, Y: 3, S: 4, P: 0x20, PC: 0x8001}, 0, 2, 1)},
	} {
		b := made(t, 0x8000, 0, 64, append(codes(t, 0x8000, c.lines), 0xea)...)
		outcome(t, "P13.5: without a memory: "+c.lines, xlate.Run(b, r, 0x77, nil), c.want)
	}
}

// An empty block does nothing.
func TestEmptyBlockRuns(t *testing.T) {
	r := api.Regs{A: 1, X: 2, Y: 3, S: 4, P: 0xff, PC: 0x1234}
	want := end(api.Regs{A: 1, X: 2, Y: 3, S: 4, P: 0xff, PC: 0x0200}, 0x77, 0, 0)
	b := made(t, 0x0200, api.TagRam, 64, 0x58, 0xea)
	l := console()
	outcome(t, "P13.5: an empty block", xlate.Run(b, r, 0x77, l), want)
	outcome(t, "P13.5: an empty block without a memory", xlate.Run(b, r, 0x77, nil), want)
	ram := inRam(0x0200, 0x58)
	o := xlate.Eval(b, r, 0x77, ram)
	outcome(t, "P13.6: an empty block", o, want)
	if o.Ram != ram || len(l.loads)+len(l.stores)+len(l.asked) != 0 {
		t.Error("P13.6: an empty block touches the memory")
	}
}

// Run's Ram is all 0, and neither the block nor what it is done on is kept.
func TestRunKeepsNothing(t *testing.T) {
	l := console()
	l.put(0x8000, append(codes(t, 0x8000, "LDA #$05; STA $10; PHA; INC $10"), 0xea)...)
	b := blockAt(t, l, 0x8000, 64)
	text := xlate.Text(b)
	first := xlate.Run(b, api.Regs{S: 0xfd}, 0, l.copied())
	if first.Ram != [2048]uint8{} {
		t.Error("P13.5: Run answers a Ram")
	}
	for range 3 {
		if o := xlate.Run(b, api.Regs{S: 0xfd}, 0, l.copied()); o != first {
			t.Errorf("P2: the same call answers %s, then %s", short(first), short(o))
		}
	}
	if xlate.Text(b) != text {
		t.Error("P2: Run has changed its block")
	}
}
