package xlate_test

import (
	"math/rand"
	"testing"

	"tandem/api"
	"tandem/xlate"
)

// oneByOne holds a block in RAM against its instructions, each translated alone from the RAM that the one ahead of it has left.
func oneByOne(t *testing.T, ram [2048]uint8, r api.Regs, limit int) api.Outcome {
	t.Helper()
	open := uint8(0x77)
	b := made(t, r.PC, api.TagRam, limit, ram[r.PC%2048:]...)
	all := xlate.Eval(b, r, open, ram)
	now := api.Outcome{Regs: r, Ram: ram, Open: open}
	for n := range all.Insts {
		pc := now.Regs.PC
		if pc >= 0x2000 {
			t.Fatalf("P13.8: % X at $%04X: instruction %d of %d lies at $%04X", b.Bytes, b.PC, n, all.Insts, pc)
		}
		one := made(t, pc, api.TagRam, 1, now.Ram[pc%2048:]...)
		cycles := now.Cycles
		now = xlate.Eval(one, now.Regs, now.Open, now.Ram)
		if one.Insts != 1 || now.Insts != 1 || now.Left == api.LeftGuard {
			t.Fatalf("P13.8: % X at $%04X: instruction %d of %d, at $%04X, can't be done alone: %s", b.Bytes, b.PC, n, all.Insts, pc, short(now))
		}
		if now.Cycles < one.Least || now.Cycles > one.Most {
			t.Fatalf("P13.8: % X alone: %d cycles, between %d and %d", one.Bytes, now.Cycles, one.Least, one.Most)
		}
		now.Cycles += cycles
	}
	if all.Regs != now.Regs || all.Ram != now.Ram || all.Open != now.Open || all.Cycles != now.Cycles {
		t.Fatalf("P13.8: % X at $%04X from %+v: %s, one by one %s (the same RAM: %v)", b.Bytes, b.PC, r, short(all), short(now), all.Ram == now.Ram)
	}
	if all.Insts == b.Insts && (all.Cycles < b.Least || all.Cycles > b.Most) {
		t.Fatalf("P13.8: % X at $%04X: %d cycles, between %d and %d", b.Bytes, b.PC, all.Cycles, b.Least, b.Most)
	}
	if all.Left == api.LeftEnd && all.Insts != b.Insts {
		t.Fatalf("P13.5: % X at $%04X: %s, of %d instructions", b.Bytes, b.PC, short(all), b.Insts)
	}
	return all
}

// Any RAM, any registers: from each place the block beside its instructions.
func TestBlocksBesideTheirInstructions(t *testing.T) {
	r := rand.New(rand.NewSource(1305))
	insts, left := 0, map[uint8]int{}
	for range 6000 {
		var ram [2048]uint8
		lay(r, ram[:])
		pc := some(r, uint16(r.Intn(0x2000)), uint16(0x100+r.Intn(0x100)), uint16(r.Intn(0x100)))
		if r.Intn(2) == 0 {
			storing(r, &ram, pc)
		}
		regs := anyRegs(r, pc)
		if r.Intn(3) == 0 {
			regs.S = uint8(int(pc) + r.Intn(40))
		}
		o := oneByOne(t, ram, regs, some(r, 1, 2, 8, 64))
		insts += o.Insts
		left[o.Left]++
	}
	if insts < 10000 || left[api.LeftStore] < 300 || left[api.LeftGuard] < 300 || left[api.LeftEnd] < 300 {
		t.Errorf("%d instructions were done, the blocks were left in these ways: %v: too few to tell", insts, left)
	}
}

// Any instruction alone and behind others, in the zero page, in the stack and elsewhere.
func TestEveryOpcodeBesideItself(t *testing.T) {
	r := rand.New(rand.NewSource(1306))
	for code := range 256 {
		for range 60 {
			var ram [2048]uint8
			lay(r, ram[:])
			pc := some[uint16](r, 0x0010, 0x00f7, 0x0130, 0x01f8, 0x0300, 0x0bf8, 0x17f6)
			for i, v := range []uint8{0xa2, anyByte(r), uint8(code), anyByte(r), some(r, uint8(r.Intn(32)), uint8(pc>>8)), 0xe8, 0xe8} {
				ram[(int(pc)+i)%2048] = v
			}
			oneByOne(t, ram, anyRegs(r, pc), some(r, 1, 2, 4))
			oneByOne(t, ram, anyRegs(r, pc+2), some(r, 1, 4))
		}
	}
}

// Code that changes the instruction right behind the one that stores, and goes on with the new one.
func TestSelfModifyingCode(t *testing.T) {
	ram := inRam(0x0200, 0xa9, 0xe8, 0x8d, 0x05, 0x02, 0xca, 0xca, 0xea, 0x00) // LDA #$E8; STA $0205; DEX; DEX: an INX in the first one's place
	o := oneByOne(t, ram, api.Regs{PC: 0x0200}, 64)
	outcome(t, "the block ahead of the store", o, storeLeft(api.Regs{A: 0xe8, P: 0x80, PC: 0x0205}, 0xe8, 6, 2))
	o = oneByOne(t, o.Ram, o.Regs, 2)
	outcome(t, "the new code", o, end(api.Regs{A: 0xe8, P: 0x02, PC: 0x0207}, 0xea, 4, 2))
}
