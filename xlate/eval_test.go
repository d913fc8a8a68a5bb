package xlate_test

import (
	"math/rand"
	"testing"

	"tandem/api"
	"tandem/xlate"
)

// evalCase is code in RAM, and what Eval answers.
type evalCase struct {
	lines string
	pc    uint16
	r     api.Regs
	mem   bytes
	want  api.Outcome
	put   bytes // what is stored
}

func (c evalCase) ask(t *testing.T) {
	t.Helper()
	code := codes(t, c.pc, c.lines)
	ram := inRam(c.pc, code...)
	for addr, v := range c.mem {
		ram[addr] = v
	}
	b := made(t, c.pc, api.TagRam, 64, ram[c.pc%2048:][:len(code)+1]...)
	c.r.PC = 0x4321
	o := xlate.Eval(b, c.r, 0x77, ram)
	outcome(t, "P13.6: "+c.lines, o, c.want)
	for addr, v := range c.put {
		ram[addr] = v
	}
	if o.Ram != ram {
		for i := range ram {
			if o.Ram[i] != ram[i] {
				t.Errorf("P13.6: %s: Ram[$%03X] is %02X, want %02X", c.lines, i, o.Ram[i], ram[i])
			}
		}
	}
}

// storeLeft is an Outcome of a block that a store has thrown away.
func storeLeft(r api.Regs, open uint8, cycles, insts int) api.Outcome {
	return api.Outcome{Regs: r, Open: open, Cycles: cycles, Insts: insts, Left: api.LeftStore}
}

// RAM and its mirrors are plain, all else is not.
func TestEvalOnRamAlone(t *testing.T) {
	for _, c := range []evalCase{
		{lines: "LDA $0310; STA $1FFF", pc: 0x0200, mem: bytes{0x310: 5}, want: end(api.Regs{A: 5, PC: 0x0206}, 5, 8, 2), put: bytes{0x7ff: 5}},
		{lines: "LDA $0B10; LDX $1310; LDY $1B10", pc: 0x0200, mem: bytes{0x310: 5}, want: end(api.Regs{A: 5, X: 5, Y: 5, PC: 0x0209}, 5, 12, 3)},
		{lines: "INX; LDA $2000", pc: 0x0200, mem: bytes{0x201: 0xad}, want: guard(api.Regs{X: 1, PC: 0x0201}, 0xad, 2, 1)},
		{lines: "LDA $6000", pc: 0x0200, want: guard(api.Regs{PC: 0x0200}, 0x77, 0, 0)},
		{lines: "LDA $8000", pc: 0x0200, want: guard(api.Regs{PC: 0x0200}, 0x77, 0, 0)},
		{lines: "STA $FFFF", pc: 0x0200, want: guard(api.Regs{PC: 0x0200}, 0x77, 0, 0)},
		{lines: "STA $8000,X", pc: 0x0200, want: guard(api.Regs{PC: 0x0200}, 0x77, 0, 0)},
		{lines: "STA $FFF0,X", pc: 0x0200, r: api.Regs{X: 0x20}, want: guard(api.Regs{X: 0x20, PC: 0x0200}, 0x77, 0, 0)},
		{lines: "LDA $1FF0,X", pc: 0x0200, r: api.Regs{X: 0x0f}, mem: bytes{0x7ff: 9}, want: end(api.Regs{A: 9, X: 0x0f, PC: 0x0203}, 9, 4, 1)},
		{lines: "JMP ($2000)", pc: 0x0200, want: guard(api.Regs{PC: 0x0200}, 0x77, 0, 0)},
		{lines: "JMP ($1FFF)", pc: 0x0200, mem: bytes{0x7ff: 0x34, 0x700: 0x92}, want: end(api.Regs{PC: 0x9234}, 0x92, 5, 1)},
		{lines: "RTS", pc: 0x0200, r: api.Regs{S: 0xfd}, mem: bytes{0x1fe: 0x00, 0x1ff: 0x80}, want: guard(api.Regs{S: 0xfd, PC: 0x0200}, 0x77, 0, 0)},
		{lines: "RTS", pc: 0x0200, r: api.Regs{S: 0xfd}, mem: bytes{0x1fe: 0xff, 0x1ff: 0x1f, 0x7ff: 0x3c}, want: end(api.Regs{S: 0xff, PC: 0x2000}, 0x3c, 6, 1)},
		{lines: "PHA; PHP", pc: 0x0200, r: api.Regs{A: 7, S: 0, P: 0x20}, want: end(api.Regs{A: 7, S: 0xfe, P: 0x20, PC: 0x0202}, 0x30, 6, 2), put: bytes{0x100: 7, 0x1ff: 0x30}},
		{lines: "JSR $8000", pc: 0x0a00, r: api.Regs{S: 0xfd}, want: end(api.Regs{S: 0xfb, PC: 0x8000}, 0x80, 6, 1), put: bytes{0x1fd: 0x0a, 0x1fc: 0x02}},
		{lines: "INX", pc: 0x1a00, mem: bytes{0x201: 0x9c}, want: end(api.Regs{X: 1, PC: 0x1a01}, 0x9c, 2, 1)},
	} {
		c.ask(t)
	}
}

// A store on each byte of the block, on the bytes beside it, and on the same through RAM's mirrors.
func TestStoresOnTheBlock(t *testing.T) {
	for _, pc := range []uint16{0x0200, 0x0a00, 0x12fe, 0x1a80, 0x0702, 0x0f03, 0x0000} {
		for mirror := uint16(0); mirror < 0x2000; mirror += 0x800 {
			for by := -3; by < 12; by++ {
				to := (pc+uint16(by))&0x7ff + mirror
				ram := inRam(pc, 0xa9, 0xea, 0x8d, uint8(to), uint8(to>>8), 0xea, 0xe8, 0xe8, 0x00)
				b := made(t, pc, api.TagRam, 5, ram[pc%2048:][:9]...)
				o := xlate.Eval(b, api.Regs{}, 0, ram)
				want := api.Outcome{Regs: api.Regs{A: 0xea, X: 2, PC: pc + 8}, Cycles: 12, Insts: 5, Left: api.LeftEnd, Open: 0}
				if by == 8 {
					want.Open = 0xea // the byte behind the block is read, and is no part of it
				}
				if by >= 0 && by < 8 {
					want = storeLeft(api.Regs{A: 0xea, P: 0x80, PC: pc + 5}, 0xea, 6, 2)
				}
				outcome(t, "P13.6: a store on a block", o, want)
				ram[to%2048] = 0xea
				if o.Ram != ram {
					t.Errorf("P13.6: the RAM behind a store to $%04X is another one", to)
				}
			}
		}
	}
}

// Pushes that fall on the block, which lies in the stack's page.
func TestPushesOnTheBlock(t *testing.T) {
	r := api.Regs{A: 0xea, X: 1, S: 0x41, P: 0x20}
	for _, c := range []evalCase{
		{lines: "PHA; INX; INX", pc: 0x0140, r: r, want: storeLeft(api.Regs{A: 0xea, X: 1, S: 0x40, P: 0x20, PC: 0x0141}, 0xea, 3, 1), put: bytes{0x141: 0xea}},
		{lines: "PHA; INX; INX", pc: 0x013e, r: r, want: end(api.Regs{A: 0xea, X: 3, S: 0x40, P: 0x20, PC: 0x0141}, 0xea, 7, 3), put: bytes{0x141: 0xea}},
		{lines: "INX; PHP; INX", pc: 0x093f, r: r, want: storeLeft(api.Regs{A: 0xea, X: 2, S: 0x40, P: 0x20, PC: 0x0941}, 0x30, 5, 2), put: bytes{0x141: 0x30}},
		{lines: "PHA", pc: 0x0141, r: r, want: storeLeft(api.Regs{A: 0xea, X: 1, S: 0x40, P: 0x20, PC: 0x0142}, 0xea, 3, 1), put: bytes{0x141: 0xea}},
	} {
		c.ask(t)
	}
	// A JSR whose third byte lies behind the stack's page, and whose first one lies under the pushes.
	c := evalCase{lines: "JSR $0345", pc: 0x01fe, r: api.Regs{S: 0xff}, want: storeLeft(api.Regs{S: 0xfd, PC: 0x0345}, 3, 6, 1), put: bytes{0x1ff: 0x02, 0x1fe: 0x00}}
	c.ask(t)
	c = evalCase{lines: "JSR $0345", pc: 0x01fe, r: api.Regs{S: 0xfd}, want: end(api.Regs{S: 0xfb, PC: 0x0345}, 3, 6, 1), put: bytes{0x1fd: 0x02, 0x1fc: 0x00}}
	c.ask(t)
	c = evalCase{lines: "JSR $0345", pc: 0x01fe, r: api.Regs{S: 0x00}, want: storeLeft(api.Regs{S: 0xfe, PC: 0x0345}, 3, 6, 1), put: bytes{0x100: 0x02, 0x1ff: 0x00}}
	c.ask(t)
}

// An instruction that stores on itself is done as it was.
func TestStoresOnItself(t *testing.T) {
	for _, c := range []evalCase{
		{lines: "STA $0201; INX", pc: 0x0200, r: api.Regs{A: 9}, want: storeLeft(api.Regs{A: 9, PC: 0x0203}, 9, 4, 1), put: bytes{0x201: 9}},
		{lines: "INC $0200; INX", pc: 0x0200, want: storeLeft(api.Regs{P: 0x80, PC: 0x0203}, 0xef, 6, 1), put: bytes{0x200: 0xef}},
		{lines: "ASL $10; INX", pc: 0x000f, want: storeLeft(api.Regs{PC: 0x0011}, 0x20, 5, 1), put: bytes{0x010: 0x20}},
	} {
		c.ask(t)
	}
}

// Code that lies elsewhere has no bytes in RAM: no store throws it away.
func TestStoresElsewhere(t *testing.T) {
	for _, c := range []struct {
		pc  uint16
		tag int
	}{{0x6200, api.TagWork}, {0x8200, 0}, {0xea00, 127}} {
		b := made(t, c.pc, c.tag, 3, 0xa9, 0xea, 0x8d, 0x05, 0x02, 0xe8, 0x00)
		o := xlate.Eval(b, api.Regs{}, 0, [2048]uint8{})
		outcome(t, "P13.6: a store beside a block in PRG", o, end(api.Regs{A: 0xea, X: 1, PC: c.pc + 6}, 0, 8, 3))
		if o.Ram != inRam(0x0205, 0xea) {
			t.Error("P13.6: the RAM behind the block is another one")
		}
	}
	// Loads there give 0: the byte behind the instruction is on the bus.
	b := made(t, 0x8000, 0, 1, 0xe8, 0x99)
	outcome(t, "P13.6: INX in PRG", xlate.Eval(b, api.Regs{}, 0x77, inRam(0, 0x11, 0x22)), end(api.Regs{X: 1, PC: 0x8001}, 0, 2, 1))
}

// ramLand is RAM as a land: Eval is Run on it.
func ramLand(b api.Block, ram [2048]uint8) *land {
	l := &land{own: map[uint16]bool{}}
	copy(l.cells[:], ram[:])
	for i := range len(b.Bytes) {
		if b.Tag == api.TagRam {
			l.own[uint16(int(b.PC)+i)%0x800] = true
		}
	}
	return l
}

// Any RAM: Eval is Run on it, and the Ram is what Run has left.
func TestEvalIsRun(t *testing.T) {
	r := rand.New(rand.NewSource(1304))
	left := map[uint8]int{}
	for range 3000 {
		var ram [2048]uint8
		lay(r, ram[:])
		pc := some(r, uint16(r.Intn(0x2000)), uint16(0x100+r.Intn(0x100)))
		if r.Intn(2) == 0 {
			storing(r, &ram, pc)
		}
		b := made(t, pc, api.TagRam, some(r, 1, 5, 64), ram[pc%2048:]...)
		if r.Intn(8) == 0 { // the same code elsewhere
			b = made(t, 0x8000+pc, 9, 64, append([]byte(b.Bytes), 0)...)
		}
		regs, open := anyRegs(r, pc), anyByte(r)
		if b.Tag == api.TagRam && b.Insts > 1 && r.Intn(2) == 0 { // a push that may fall on the block
			regs.S = uint8(int(pc) + r.Intn(len(b.Bytes)))
		}
		l := ramLand(b, ram)
		want := xlate.Run(b, regs, open, l)
		copy(want.Ram[:], l.cells[:])
		was := ram
		got := xlate.Eval(b, regs, open, ram)
		if got != want || ram != was {
			t.Fatalf("P13.6: % X at $%04X from %+v: %s, want %s (the same RAM: %v)", b.Bytes, pc, regs, short(got), short(want), got.Ram == want.Ram)
		}
		left[got.Left]++
	}
	if left[api.LeftStore] < 100 || left[api.LeftGuard] < 100 || left[api.LeftEnd] < 100 {
		t.Errorf("the blocks were left in these ways: %v: too few to tell", left)
	}
}
