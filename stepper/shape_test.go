package stepper_test

import (
	"testing"

	"tandem/alu"
	"tandem/api"
	"tandem/isa"
	"tandem/stepper"
)

// trial is an instruction at $8000, with X and Y 32. Its operand bytes are low and 3: with low $10 no sum leaves a page, with low $F0 all do.
type trial struct {
	code    uint8
	crossed bool
	taken   bool
}

// trials is all opcodes, in all ways in which they may turn out.
func trials() []trial {
	var l []trial
	for code := range 256 {
		for _, crossed := range []bool{false, true} {
			l = append(l, trial{uint8(code), crossed, false})
			if isa.Decode(uint8(code)).Kind == api.KindBranch {
				l = append(l, trial{uint8(code), crossed, true})
			}
		}
	}
	return l
}

func (x trial) low() int {
	if x.crossed {
		return 0xf0
	}
	return 0x10
}

func (x trial) cart() api.Cart {
	return console(x.code, uint8(x.low()), 0x03)
}

// flags is P with which the branch turns out as it shall, I being clear.
func (x trial) flags() uint8 {
	for _, p := range []uint8{0x20, 0xe3} {
		if alu.Taken(isa.Decode(x.code).Op, p) == x.taken {
			return p
		}
	}
	return 0x20
}

// turn lays the memory: a pointer wherever one may be looked for, and a stack.
func (x trial) turn(s *api.State) {
	s.Cpu.Regs = api.Regs{A: 0x5a, X: 0x20, Y: 0x20, S: 0xfd, P: x.flags(), PC: 0x8000}
	for i := range s.Mem.Ram {
		s.Mem.Ram[i] = uint8(0x31 + 7*i)
	}
	low := x.low()
	s.Mem.Ram[low], s.Mem.Ram[low+1] = uint8(low), 0x03
	s.Mem.Ram[(low+0x20)%256], s.Mem.Ram[(low+0x21)%256] = 0x44, 0x05
	s.Mem.Ram[0x1fe], s.Mem.Ram[0x1ff], s.Mem.Ram[0x100] = 0x83, 0x76, 0x95
}

// machine is a machine ahead of the instruction.
func (x trial) machine(t *testing.T) *stepper.Machine {
	return at(t, x.cart(), x.turn)
}

// operand is the address of the operand, and the one whose page is not put right yet.
func (x trial) operand() (addr, wrong int) {
	low := x.low()
	switch isa.Decode(x.code).Mode {
	case api.ModeZpx, api.ModeZpy:
		return (low + 0x20) % 256, 0
	case api.ModeAbs:
		return 0x300 + low, 0
	case api.ModeAbx, api.ModeAby, api.ModeIzy:
		return 0x300 + low + 0x20, 0x300 + (low+0x20)%256
	case api.ModeIzx:
		return 0x544, 0
	}
	return low, 0
}

// touches is the chapter's table: what each access of the shape touches.
func (x trial) touches(ram []uint8) []touch {
	i, low, pc, s := isa.Decode(x.code), x.low(), 0x8000, 0xfd
	addr, wrong := x.operand()
	pushes := x.pushed()
	var l []touch
	for _, acc := range isa.Shape(x.code, x.crossed, x.taken) {
		switch acc {
		case api.AccFetch, api.AccOperand:
			l = append(l, rd(pc))
			pc++
		case api.AccNext:
			l = append(l, rd(pc))
		case api.AccZero:
			l = append(l, got(low, int(ram[low])))
		case api.AccLow, api.AccHigh:
			at := map[api.Mode]int{api.ModeIzx: (low + 0x20) % 256, api.ModeIzy: low, api.ModeInd: 0x300 + low}[i.Mode]
			l = append(l, rd(at+int(acc-api.AccLow)))
		case api.AccWrong:
			if i.Kind == api.KindBranch {
				wrong = 0x8000 + (0x8002+low)%256
			}
			l = append(l, rd(wrong))
		case api.AccRead:
			l = append(l, got(addr, int(ram[addr])))
		case api.AccBack:
			l = append(l, wr(addr, int(ram[addr])))
		case api.AccWrite:
			l = append(l, wr(addr, int(alu.Do(i.Op, api.Alu{A: 0x5a, X: 0x20, Y: 0x20, S: 0xfd, P: 0x20, M: ram[addr]}).M)))
		case api.AccStack:
			l = append(l, rd(0x100+s))
		case api.AccPush:
			l = append(l, wr(0x100+s, pushes[0]))
			pushes, s = pushes[1:], (s+255)%256
		case api.AccPull:
			s = (s + 1) % 256
			l = append(l, got(0x100+s, int(ram[0x100+s])))
		case api.AccVecLow, api.AccVecHigh:
			l = append(l, rd(0xfffe+int(acc-api.AccVecLow)))
		}
	}
	if i.Op == api.OpRTS {
		l[5] = rd(0x7683)
	}
	return l
}

// pushed is what goes to the stack.
func (x trial) pushed() []int {
	switch isa.Decode(x.code).Op {
	case api.OpPHA:
		return []int{0x5a}
	case api.OpPHP:
		return []int{0x30}
	case api.OpBRK:
		return []int{0x80, 0x02, 0x30}
	}
	return []int{0x80, 0x02} // JSR
}

// registers is what the instruction leaves.
func (x trial) registers(ram []uint8) api.Regs {
	i := isa.Decode(x.code)
	addr, _ := x.operand()
	r := api.Regs{A: 0x5a, X: 0x20, Y: 0x20, S: 0xfd, P: x.flags(), PC: 0x8000 + uint16(i.Len)}
	m := ram[addr]
	switch i.Op {
	case api.OpJMP:
		r.PC = uint16(0x300 + x.low())
		if i.Mode == api.ModeInd {
			r.PC = uint16(ram[r.PC]) + 256*uint16(ram[r.PC+1])
		}
		return r
	case api.OpJSR:
		r.PC, r.S = uint16(0x300+x.low()), 0xfb
		return r
	case api.OpRTS:
		r.PC, r.S = 0x7684, 0xff
		return r
	case api.OpRTI:
		r.PC, r.S, r.P = 0x9576, 0x00, 0xa3
		return r
	case api.OpBRK:
		r.PC, r.S, r.P = 0xa000, 0xfa, 0x24
		return r
	case api.OpJAM:
		r.PC = 0x8000
		return r
	case api.OpPHA, api.OpPHP:
		r.S = 0xfc
		return r
	case api.OpPLA, api.OpPLP:
		r.S, m = 0xfe, 0x83
	}
	if x.taken {
		r.PC += uint16(int8(x.low()))
	}
	if i.Mode == api.ModeImm {
		m = uint8(x.low())
	}
	in := api.Alu{A: r.A, X: r.X, Y: r.Y, S: r.S, P: r.P, M: m}
	o := alu.Do(i.Op, in)
	if i.Mode == api.ModeAcc {
		o = alu.Acc(i.Op, in)
	}
	return api.Regs{A: o.A, X: o.X, Y: o.Y, S: o.S, P: o.P, PC: r.PC}
}

// All 256 opcodes: their accesses are those of isa.Shape, at the chapter's addresses, and what comes of them is alu's.
func TestAllOpcodes(t *testing.T) {
	for _, x := range trials() {
		what := "11.3: " + isa.Name(isa.Decode(x.code).Op) + " " + hex(x.code)
		if x.crossed {
			what += " crossed"
		}
		if x.taken {
			what += " taken"
		}
		m := x.machine(t)
		ram := m.Mem().Ram
		want := x.touches(ram[:])
		does(t, what, m, want...)
		registers(t, what, m, x.registers(ram[:]))
		s := stateOf(t, m)
		if s.Cpu.Take != 0 || s.Cpu.Jam != (isa.Decode(x.code).Kind == api.KindJam) {
			t.Errorf("%s leaves %+v", what, s.Cpu)
		}
		for _, w := range want {
			if w.write {
				ram[w.addr] = uint8(w.val)
			}
		}
		if s.Mem.Ram != ram {
			t.Errorf("%s: another RAM than the writes make", what)
		}
	}
}

// hex is a byte in two digits.
func hex(v uint8) string {
	return "$" + string("0123456789ABCDEF"[v>>4]) + string("0123456789ABCDEF"[v&15])
}

// Sums of the zero page stay in it.
func TestZeroPageWraps(t *testing.T) {
	set := func(x, y uint8, bytes map[int]uint8) func(s *api.State) {
		return func(s *api.State) {
			s.Cpu.Regs.X, s.Cpu.Regs.Y = x, y
			for i, v := range bytes {
				s.Mem.Ram[i] = v
			}
		}
	}
	m := at(t, console(0xb5, 0xff), set(0x01, 0, map[int]uint8{0: 0x77}))
	does(t, "11.3: LDA $FF,X", m, rd(0x8000), rd(0x8001), rd(0xff), got(0x00, 0x77))
	m = at(t, console(0xb6, 0x80), set(0, 0xff, map[int]uint8{0x7f: 0x78}))
	does(t, "11.3: LDX $80,Y", m, rd(0x8000), rd(0x8001), rd(0x80), got(0x7f, 0x78))
	m = at(t, console(0xa1, 0xfe), set(0x01, 0, map[int]uint8{0xff: 0x34, 0: 0x02, 0x100: 0x05}))
	does(t, "11.3: LDA ($FE,X)", m, rd(0x8000), rd(0x8001), rd(0xfe), rd(0xff), rd(0x00), rd(0x0234))
	m = at(t, console(0xa1, 0xff), set(0xff, 0, map[int]uint8{0xfe: 0x34, 0xff: 0x02}))
	does(t, "11.3: LDA ($FF,X)", m, rd(0x8000), rd(0x8001), rd(0xff), rd(0xfe), rd(0xff), rd(0x0234))
	m = at(t, console(0xb1, 0xff), set(0, 0x11, map[int]uint8{0xff: 0x34, 0: 0x02, 0x100: 0x05}))
	does(t, "11.3: LDA ($FF),Y", m, rd(0x8000), rd(0x8001), rd(0xff), rd(0x00), rd(0x0245))
	m = at(t, console(0x96, 0xf0), func(s *api.State) { s.Cpu.Regs.X, s.Cpu.Regs.Y = 0x99, 0x20 })
	does(t, "11.3: STX $F0,Y", m, rd(0x8000), rd(0x8001), rd(0xf0), wr(0x10, 0x99))
	m = at(t, console(0xf6, 0xf0), set(0x20, 0, map[int]uint8{0x10: 0xff}))
	does(t, "11.3: INC $F0,X", m, rd(0x8000), rd(0x8001), rd(0xf0), got(0x10, 0xff), wr(0x10, 0xff), wr(0x10, 0x00))
}

// Sums of addresses go round behind $FFFF.
func TestAddressesWrap(t *testing.T) {
	m := at(t, console(0xbd, 0xff, 0xff), func(s *api.State) { s.Cpu.Regs.X = 0x02 })
	does(t, "11.3: LDA $FFFF,X", m, rd(0x8000), rd(0x8001), rd(0x8002), rd(0xff01), rd(0x0001))
	m = at(t, console(0x99, 0x80, 0xff), func(s *api.State) { s.Cpu.Regs.A, s.Cpu.Regs.Y = 0x42, 0x80 })
	does(t, "11.3: STA $FF80,Y", m, rd(0x8000), rd(0x8001), rd(0x8002), rd(0xff00), wr(0x0000, 0x42))
	m = at(t, console(0xd1, 0x10), func(s *api.State) { s.Cpu.Regs.Y, s.Mem.Ram[0x10], s.Mem.Ram[0x11] = 0xff, 0x01, 0xff })
	does(t, "11.3: CMP ($10),Y", m, rd(0x8000), rd(0x8001), rd(0x10), rd(0x11), rd(0xff00), rd(0x0000))
	c := console()
	c.Prg[0x7fff] = 0xa5
	m = at(t, c, func(s *api.State) { s.Cpu.Regs.PC, s.Mem.Ram[0] = 0xffff, 0x21 })
	does(t, "11.3: LDA at $FFFF", m, rd(0xffff), got(0x0000, 0x21), rd(0x21))
	registers(t, "11.3: LDA at $FFFF", m, api.Regs{S: 0xfd, P: 0x26, PC: 0x0001})
	c = console()
	copy(c.Prg[0x7ffe:], []byte{0xd0, 0x10})
	m = at(t, c, func(s *api.State) { s.Cpu.Regs.PC = 0xfffe })
	does(t, "11.3: BNE at $FFFE", m, rd(0xfffe), rd(0xffff), rd(0x0000))
	registers(t, "11.3: BNE at $FFFE", m, api.Regs{S: 0xfd, P: 0x24, PC: 0x0010})
	m = at(t, c, func(s *api.State) {
		s.Cpu.Regs.PC = 0x0000
		s.Mem.Ram[0], s.Mem.Ram[1] = 0xd0, 0x80
	})
	does(t, "11.3: BNE at $0000", m, rd(0x0000), rd(0x0001), rd(0x0002), rd(0x0082))
	registers(t, "11.3: BNE at $0000", m, api.Regs{S: 0xfd, P: 0x24, PC: 0xff82})
}

// The pointer of JMP does not leave its page.
func TestJumpThroughPageEnd(t *testing.T) {
	for _, page := range []int{0x00, 0x02, 0x10, 0x1f} {
		m := at(t, console(0x6c, 0xff, uint8(page)), func(s *api.State) {
			s.Mem.Ram[(256*page+255)%2048], s.Mem.Ram[256*page%2048], s.Mem.Ram[(256*page+256)%2048] = 0x34, 0x92, 0x56
		})
		does(t, "11.3: JMP through $xxFF", m, rd(0x8000), rd(0x8001), rd(0x8002), got(256*page+255, 0x34), got(256*page, 0x92))
		registers(t, "11.3: JMP through $xxFF", m, api.Regs{S: 0xfd, P: 0x24, PC: 0x9234})
	}
	m := at(t, console(0x6c, 0xfe, 0xc0), as)
	does(t, "11.3: JMP through $C0FE", m, rd(0x8000), rd(0x8001), rd(0x8002), rd(0xc0fe), rd(0xc0ff))
	registers(t, "11.3: JMP through $C0FE", m, api.Regs{S: 0xfd, P: 0x24, PC: 0xeaea})
}

// The stack pointer goes round in its page.
func TestStackWraps(t *testing.T) {
	low := func(s *api.State) { s.Cpu.Regs.S = 0x00 }
	high := func(s *api.State) {
		s.Cpu.Regs.S = 0xff
		s.Mem.Ram[0x100], s.Mem.Ram[0x101], s.Mem.Ram[0x102] = 0x21, 0x43, 0x92
	}
	m := at(t, console(0x48), low)
	does(t, "11.3: PHA", m, rd(0x8000), rd(0x8001), wr(0x100, 0))
	registers(t, "11.3: PHA", m, api.Regs{S: 0xff, P: 0x24, PC: 0x8001})
	m = at(t, console(0x68), high)
	does(t, "11.3: PLA", m, rd(0x8000), rd(0x8001), rd(0x1ff), got(0x100, 0x21))
	registers(t, "11.3: PLA", m, api.Regs{A: 0x21, P: 0x24, PC: 0x8001})
	m = at(t, console(0x20, 0x10, 0x90), low)
	does(t, "11.3: JSR", m, rd(0x8000), rd(0x8001), rd(0x100), wr(0x100, 0x80), wr(0x1ff, 0x02), rd(0x8002))
	registers(t, "11.3: JSR", m, api.Regs{S: 0xfe, P: 0x24, PC: 0x9010})
	m = at(t, console(0x60), high)
	does(t, "11.3: RTS", m, rd(0x8000), rd(0x8001), rd(0x1ff), got(0x100, 0x21), got(0x101, 0x43), rd(0x4321))
	registers(t, "11.3: RTS", m, api.Regs{S: 0x01, P: 0x24, PC: 0x4322})
	m = at(t, console(0x40), high)
	does(t, "11.3: RTI", m, rd(0x8000), rd(0x8001), rd(0x1ff), got(0x100, 0x21), got(0x101, 0x43), got(0x102, 0x92))
	registers(t, "11.3: RTI", m, api.Regs{S: 0x02, P: 0x21, PC: 0x9243})
	for s, want := range [][]int{{0x100, 0x1ff, 0x1fe}, {0x101, 0x100, 0x1ff}, {0x102, 0x101, 0x100}} {
		m = at(t, console(0x00), func(x *api.State) { x.Cpu.Regs.S = uint8(s) })
		does(t, "11.3: BRK", m, rd(0x8000), rd(0x8001), wr(want[0], 0x80), wr(want[1], 0x02), wr(want[2], 0x34), rd(0xfffe), rd(0xffff))
		m = at(t, console(), func(x *api.State) { x.Cpu.Regs.S, x.Cpu.Take = uint8(s), 1 })
		does(t, "an IRQ entry", m, rd(0x8000), rd(0x8000), wr(want[0], 0x80), wr(want[1], 0x00), wr(want[2], 0x24), rd(0xfffe), rd(0xffff))
		m = at(t, console(), func(x *api.State) { x.Cpu.Regs.S, x.Cpu.Take = uint8(s), 3 })
		does(t, "a reset entry", m, rd(0x8000), rd(0x8000), rd(want[0]), rd(want[1]), rd(want[2]), rd(0xfffc), rd(0xfffd))
		registers(t, "a reset entry", m, api.Regs{S: uint8(s + 253), P: 0x24, PC: 0x8000})
	}
}

// The flags that are pulled have bit 5 set and bit 4 clear, whatever lies on the stack; those that are pushed have both.
func TestFlagsOnTheStack(t *testing.T) {
	for p := range 256 {
		lay := func(s *api.State) { s.Mem.Ram[0x1fe] = uint8(p) }
		want := uint8(p)&0xcf | 0x20
		for _, code := range []uint8{0x28, 0x40} {
			m := at(t, console(code), lay)
			ends(m)
			if s := stateOf(t, m); s.Cpu.Regs.P != want {
				t.Errorf("11.3: %#x pulls %#x: P is %#x", code, p, s.Cpu.Regs.P)
			}
		}
		for _, code := range []uint8{0x08, 0x00} {
			m := at(t, console(code), func(s *api.State) { s.Cpu.Regs.P = want })
			l := ends(m)
			at := len(l) - 1
			if code == 0 {
				at = 4
			}
			if l[at].Val != want|0x30 {
				t.Errorf("11.3: %#x pushes %#x with P %#x", code, l[at].Val, want)
			}
		}
	}
}

// Dummy accesses are accesses: what they do to devices is done, and logged.
func TestDummyAccesses(t *testing.T) {
	blank := func(s *api.State) {
		s.Mem.Raster = api.Raster{Line: 245, Vbl: true}
		s.Cpu.Regs.X = 0x01
	}
	m := at(t, console(0xbd, 0xff, 0x20), blank) // LDA $20FF,X: the wrong read is $2000
	does(t, "11.3: LDA $20FF,X", m, rd(0x8000), rd(0x8001), rd(0x8002), rd(0x2000), rd(0x2100))
	m = at(t, console(0xbd, 0x01, 0x20), blank) // LDA $2001,X: no wrong read, and the status is cleared once
	does(t, "11.3: LDA $2001,X", m, rd(0x8000), rd(0x8001), rd(0x8002), got(0x2002, 0x80))
	m = at(t, console(0x9d, 0x01, 0x20), blank) // STA $2001,X: the wrong read clears it
	does(t, "11.3: STA $2001,X", m, rd(0x8000), rd(0x8001), rd(0x8002), got(0x2002, 0x80), wr(0x2002, 0))
	if s := m.Mem(); s.Raster.Vbl {
		t.Error("11.3: the wrong read does nothing")
	}
	l := m.Log()
	if len(l) != 2 || l[0] != (api.Access{Cycle: 3, Addr: 0x2002, Val: 0x80}) || l[1] != (api.Access{Cycle: 4, Addr: 0x2002, Write: true}) {
		t.Errorf("Logs: %+v", l)
	}
	m = at(t, console(0xee, 0x07, 0x20), func(s *api.State) { s.Mem.Video.V, s.Mem.Video.Buf = 0x2100, 0x11 }) // INC $2007
	does(t, "11.3: INC $2007", m, rd(0x8000), rd(0x8001), rd(0x8002), got(0x2007, 0x11), wr(0x2007, 0x11), wr(0x2007, 0x12))
	if v := m.Mem().Video; v.V != 0x2103 || v.Nt[0x101] != 0x11 || v.Nt[0x102] != 0x12 {
		t.Errorf("11.3: INC $2007 leaves V %#x", v.V)
	}
	if l := m.Log(); len(l) != 3 || !l[1].Write || l[1].Cycle != 4 {
		t.Errorf("Logs: %+v", l)
	}
}
