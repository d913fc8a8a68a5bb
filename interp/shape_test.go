package interp_test

import (
	"fmt"
	"testing"

	"tandem/alu"
	"tandem/api"
	"tandem/interp"
	"tandem/isa"
)

// trial is an instruction at $8000, with X and Y 32. Its operand bytes are low and page: with low $10 no sum leaves a page, with low $F0 all do.
type trial struct {
	code    uint8
	crossed bool
	taken   bool
	page    uint8
}

// The pages in which a trial's operand may lie: in RAM, and where nothing answers, so that every access is logged and no write goes anywhere.
const (
	inRam   = 0x03
	nowhere = 0x50
)

// trials is all opcodes, in all ways in which they may turn out.
func trials(page uint8) []trial {
	var l []trial
	for code := range 256 {
		for _, crossed := range []bool{false, true} {
			l = append(l, trial{uint8(code), crossed, false, page})
			if isa.Decode(uint8(code)).Kind == api.KindBranch {
				l = append(l, trial{uint8(code), crossed, true, page})
			}
		}
	}
	return l
}

func (x trial) String() string {
	return fmt.Sprintf("%s (%02X, crossed %v, taken %v, page %02X)", isa.Name(isa.Decode(x.code).Op), x.code, x.crossed, x.taken, x.page)
}

func (x trial) low() int {
	if x.crossed {
		return 0xf0
	}
	return 0x10
}

func (x trial) base() int { return 256*int(x.page) + x.low() }

func (x trial) cycles() int { return isa.Cycles(x.code, x.crossed, x.taken) }

func (x trial) cart() api.Cart {
	return console(x.code, uint8(x.low()), x.page)
}

// flags is P with which the branch turns out as it shall, I being clear.
func (x trial) flags() uint8 {
	for _, p := range []uint8{0x20, 0xe3} {
		if alu.Taken(isa.Decode(x.code).Op, p) == x.taken {
			return p
		}
	}
	return 0x20
}

// turn lays the memory: a pointer wherever one may be looked for, and a stack.
func (x trial) turn(s *api.State) {
	s.Cpu.Regs = api.Regs{A: 0x5a, X: 0x20, Y: 0x20, S: 0xfd, P: x.flags(), PC: 0x8000}
	for i := range s.Mem.Ram {
		s.Mem.Ram[i] = uint8(0x31 + 7*i)
	}
	low := x.low()
	s.Mem.Ram[low], s.Mem.Ram[low+1] = uint8(low), x.page
	s.Mem.Ram[(low+0x20)%256], s.Mem.Ram[(low+0x21)%256] = 0x44, x.page+2
	s.Mem.Ram[0x1fe], s.Mem.Ram[0x1ff], s.Mem.Ram[0x100] = 0x83, 0x56, 0x95
}

// operand is the address of the operand, and the one whose page is not put right yet.
func (x trial) operand() (addr, wrong int) {
	switch isa.Decode(x.code).Mode {
	case api.ModeZpx, api.ModeZpy:
		return (x.low() + 0x20) % 256, 0
	case api.ModeAbs:
		return x.base(), 0
	case api.ModeAbx, api.ModeAby, api.ModeIzy:
		return x.base() + 0x20, x.base()/256*256 + (x.low()+0x20)%256
	case api.ModeIzx:
		return 0x244 + 256*int(x.page), 0
	}
	return x.low(), 0
}

// registers is what the instruction leaves; m is the byte that its operand has.
func (x trial) registers(ram []uint8, m uint8) api.Regs {
	i := isa.Decode(x.code)
	r := api.Regs{A: 0x5a, X: 0x20, Y: 0x20, S: 0xfd, P: x.flags(), PC: 0x8000 + uint16(i.Len)}
	switch i.Op {
	case api.OpJMP:
		r.PC = uint16(x.base())
		if i.Mode == api.ModeInd {
			r.PC = 257 * uint16(nowhere) // the open bus, twice
			if x.page == inRam {
				r.PC = uint16(ram[x.base()]) + 256*uint16(ram[x.base()+1])
			}
		}
		return r
	case api.OpJSR:
		r.PC, r.S = uint16(x.base()), 0xfb
		return r
	case api.OpRTS:
		r.PC, r.S = 0x5684, 0xff
		return r
	case api.OpRTI:
		r.PC, r.S, r.P = 0x9556, 0x00, 0xa3
		return r
	case api.OpBRK:
		r.PC, r.S, r.P = 0xa000, 0xfa, 0x24
		return r
	case api.OpJAM:
		r.PC = 0x8000
		return r
	case api.OpPHA, api.OpPHP:
		r.S = 0xfc
		return r
	case api.OpPLA, api.OpPLP:
		r.S, m = 0xfe, 0x83
	}
	if x.taken {
		r.PC += uint16(int8(x.low()))
	}
	if i.Mode == api.ModeImm {
		m = uint8(x.low())
	}
	in := api.Alu{A: r.A, X: r.X, Y: r.Y, S: r.S, P: r.P, M: m}
	o := alu.Do(i.Op, in)
	if i.Mode == api.ModeAcc {
		o = alu.Acc(i.Op, in)
	}
	return api.Regs{A: o.A, X: o.X, Y: o.Y, S: o.S, P: o.P, PC: r.PC}
}

// written is the byte that the instruction makes of its operand m.
func (x trial) written(m uint8) uint8 {
	return alu.Do(isa.Decode(x.code).Op, api.Alu{A: 0x5a, X: 0x20, Y: 0x20, S: 0xfd, P: 0x20, M: m}).M
}

// All 256 opcodes with an operand in RAM: cycles, registers, and what is stored, write-backs too.
func TestAllOpcodesInRam(t *testing.T) {
	for _, x := range trials(inRam) {
		what := "P12.4: " + x.String()
		m := at(t, x.cart(), x.turn)
		was := m.State()
		ram, want := was.Mem.Ram, []int(nil)
		put := func(place int, v uint8) {
			ram[place] = v
			want = append(want, place)
		}
		addr, _ := x.operand()
		switch i := isa.Decode(x.code); i.Kind {
		case api.KindRmw:
			put(addr, ram[addr])
			put(addr, x.written(ram[addr]))
		case api.KindWrite:
			put(addr, x.written(0))
		case api.KindPush:
			put(0x1fd, map[api.Op]uint8{api.OpPHA: 0x5a, api.OpPHP: 0x30}[i.Op])
		case api.KindCall:
			put(0x1fd, 0x80)
			put(0x1fc, 0x02)
		case api.KindBreak:
			put(0x1fd, 0x80)
			put(0x1fc, 0x02)
			put(0x1fb, 0x30)
		}
		steps(t, what, m, x.cycles())
		registers(t, what, m, x.registers(was.Mem.Ram[:], was.Mem.Ram[addr]))
		s := m.State()
		if s.Mem.Ram != ram || s.Cpu.Take != 0 || s.Cpu.Jam != (isa.Decode(x.code).Kind == api.KindJam) {
			t.Errorf("%s: another RAM than its writes make, or %+v", what, s.Cpu)
		}
		stores(t, what, m, want...)
	}
}

// All 256 opcodes with an operand where nothing answers: each access of the operand, the ones for nothing too, in its cycle.
func TestAllOpcodesNowhere(t *testing.T) {
	for _, x := range trials(nowhere) {
		what := "P12.4: " + x.String()
		m := at(t, x.cart(), x.turn)
		i := isa.Decode(x.code)
		addr, wrong := x.operand()
		open := uint8(nowhere) // what the last byte of the code or of the pointer has left
		if i.Mode == api.ModeIzx {
			open = nowhere + 2
		}
		var want []api.Access
		for k, acc := range isa.Shape(x.code, x.crossed, x.taken) {
			a := api.Access{Cycle: k, Addr: uint16(addr), Val: open}
			switch {
			case acc == api.AccWrong:
				a.Addr = uint16(wrong)
			case acc == api.AccRead:
			case acc == api.AccBack:
				a.Write = true
			case acc == api.AccWrite:
				a.Write, a.Val = true, x.written(open)
			case i.Mode == api.ModeInd && acc == api.AccLow:
				a.Addr = uint16(x.base())
			case i.Mode == api.ModeInd && acc == api.AccHigh:
				a.Addr = uint16(x.base() + 1)
			case i.Op == api.OpRTS && k == 5:
				a.Addr, a.Val = 0x5683, 0x56
			default:
				continue
			}
			if a.Addr >= 0x2000 && a.Addr < 0x6000 {
				want = append(want, a)
			}
		}
		ram := m.State().Mem.Ram
		operand := open
		if addr < 0x2000 {
			operand = ram[addr]
		}
		steps(t, what, m, x.cycles())
		registers(t, what, m, x.registers(ram[:], operand))
		logs(t, what, m, want...)
	}
}

// All opcodes as code where nothing answers: each byte is the one that was left on the bus, and each access of the code is logged.
func TestCodeNowhere(t *testing.T) {
	for code := range 256 {
		for _, pc := range []uint16{0x5080, 0x5000, 0x50fe} {
			i := isa.Decode(uint8(code))
			to := pc + 2 + uint16(int8(code))
			taken, crossed := alu.Taken(i.Op, 0x20), to>>8 != (pc+2)>>8
			m := at(t, console(), func(s *api.State) {
				s.Mem.Open, s.Cpu.Regs.PC, s.Cpu.Regs.P = uint8(code), pc, 0x20
			})
			var want []api.Access
			next := pc
			for k, acc := range isa.Shape(uint8(code), crossed, taken) {
				a := api.Access{Cycle: k, Addr: next, Val: uint8(code)}
				switch {
				case k >= 3 && i.Kind != api.KindBranch: // what comes behind the code
					continue
				case acc == api.AccFetch || acc == api.AccOperand:
					next++
				case acc == api.AccNext:
				case acc == api.AccWrong:
					a.Addr = next&0xff00 | to&0xff
				default:
					continue
				}
				want = append(want, a)
			}
			m.Step()
			l := m.Log()
			if i.Kind != api.KindBranch && len(l) > len(want) {
				l = l[:len(want)]
			}
			if fmt.Sprint(l) != fmt.Sprint(want) {
				t.Errorf("P12.4: %02X at %#x: accesses %+v, want %+v", code, pc, l, want)
			}
		}
	}
}

// Sums of the zero page stay in it.
func TestZeroPageWraps(t *testing.T) {
	for _, x := range []struct {
		code   []uint8
		x, y   uint8
		bytes  map[int]uint8
		cycles int
		want   uint8 // in A
	}{
		{[]uint8{0xb5, 0xff}, 1, 0, map[int]uint8{0: 0x77, 0x100: 0x11}, 4, 0x77},
		{[]uint8{0xb5, 0x80}, 0xff, 0, map[int]uint8{0x7f: 0x78, 0x17f: 0x11}, 4, 0x78},
		{[]uint8{0xb7, 0x80}, 0, 0xff, map[int]uint8{0x7f: 0x79, 0x17f: 0x11}, 4, 0x79}, // LAX $80,Y
		{[]uint8{0xa1, 0xfe}, 1, 0, map[int]uint8{0xff: 0x34, 0: 0x02, 0x100: 0x05, 0x234: 0x7a}, 6, 0x7a},
		{[]uint8{0xa1, 0xff}, 0xff, 0, map[int]uint8{0xfe: 0x34, 0xff: 0x02, 0x234: 0x7b}, 6, 0x7b},
		{[]uint8{0xa1, 0xff}, 1, 0, map[int]uint8{0: 0x34, 1: 0x02, 0x234: 0x7c, 0x100: 0x99}, 6, 0x7c},
		{[]uint8{0xb1, 0xff}, 0, 0x11, map[int]uint8{0xff: 0x34, 0: 0x02, 0x100: 0x05, 0x245: 0x7d}, 5, 0x7d},
	} {
		m := at(t, console(x.code...), func(s *api.State) {
			s.Cpu.Regs.X, s.Cpu.Regs.Y = x.x, x.y
			for i, v := range x.bytes {
				s.Mem.Ram[i] = v
			}
		})
		steps(t, fmt.Sprintf("P12.4: % x", x.code), m, x.cycles)
		if a := m.Cpu().Regs.A; a != x.want {
			t.Errorf("P12.4: % x with X %d, Y %d: A is %#x, want %#x", x.code, x.x, x.y, a, x.want)
		}
	}
	m := at(t, console(0x96, 0xf0), func(s *api.State) { s.Cpu.Regs.X, s.Cpu.Regs.Y = 0x99, 0x20 })
	steps(t, "P12.4: STX $F0,Y", m, 4)
	stores(t, "P12.4: STX $F0,Y", m, 0x10)
	m = at(t, console(0xf6, 0xf0), func(s *api.State) { s.Cpu.Regs.X = 0x20 })
	steps(t, "P12.4: INC $F0,X", m, 6)
	stores(t, "P12.4: INC $F0,X", m, 0x10, 0x10)
}

// Sums of addresses go round behind $FFFF.
func TestAddressesWrap(t *testing.T) {
	a := func(m *interp.Machine) uint8 { return m.Cpu().Regs.A }
	m := at(t, console(0xbd, 0xff, 0xff), func(s *api.State) { s.Cpu.Regs.X, s.Mem.Ram[1] = 0x02, 0x31 })
	if steps(t, "P12.4: LDA $FFFF,X", m, 5); a(m) != 0x31 {
		t.Errorf("P12.4: LDA $FFFF,X: %#x", a(m))
	}
	m = at(t, console(0x99, 0x80, 0xff), func(s *api.State) { s.Cpu.Regs.A, s.Cpu.Regs.Y = 0x42, 0x80 })
	steps(t, "P12.4: STA $FF80,Y", m, 5)
	stores(t, "P12.4: STA $FF80,Y", m, 0)
	m = at(t, console(0xb1, 0x10), func(s *api.State) {
		s.Cpu.Regs.Y, s.Mem.Ram[0x10], s.Mem.Ram[0x11], s.Mem.Ram[0] = 0xff, 0x01, 0xff, 0x32
	})
	if steps(t, "P12.4: LDA ($10),Y", m, 6); a(m) != 0x32 {
		t.Errorf("P12.4: LDA ($10),Y: %#x", a(m))
	}
	c := console()
	c.Prg[0x7fff] = 0xa5
	m = at(t, c, func(s *api.State) { s.Cpu.Regs.PC, s.Mem.Ram[0], s.Mem.Ram[0x21] = 0xffff, 0x21, 0x33 })
	steps(t, "P12.4: LDA at $FFFF", m, 3)
	registers(t, "P12.4: LDA at $FFFF", m, api.Regs{A: 0x33, S: 0xfd, P: 0x24, PC: 0x0001})
	copy(c.Prg[0x7ffe:], []byte{0xd0, 0x10})
	m = at(t, c, func(s *api.State) { s.Cpu.Regs.PC = 0xfffe })
	steps(t, "P12.4: BNE at $FFFE", m, 3)
	registers(t, "P12.4: BNE at $FFFE", m, api.Regs{S: 0xfd, P: 0x24, PC: 0x0010})
	m = at(t, c, func(s *api.State) { s.Cpu.Regs.PC, s.Mem.Ram[0], s.Mem.Ram[1] = 0x0000, 0xd0, 0x80 })
	steps(t, "P12.4: BNE at $0000", m, 4)
	registers(t, "P12.4: BNE at $0000", m, api.Regs{S: 0xfd, P: 0x24, PC: 0xff82})
	copy(c.Prg[0x7ffe:], []byte{0x4c, 0x34})
	m = at(t, c, func(s *api.State) { s.Cpu.Regs.PC, s.Mem.Ram[0] = 0xfffe, 0x92 })
	steps(t, "P12.4: JMP at $FFFE", m, 3)
	registers(t, "P12.4: JMP at $FFFE", m, api.Regs{S: 0xfd, P: 0x24, PC: 0x9234})
}

// The pointer of JMP does not leave its page; its own two bytes may lie in two.
func TestJumpThroughPageEnd(t *testing.T) {
	for _, page := range []int{0x00, 0x02, 0x10, 0x1f} {
		m := at(t, console(0x6c, 0xff, uint8(page)), func(s *api.State) {
			s.Mem.Ram[(256*page+255)%2048], s.Mem.Ram[256*page%2048], s.Mem.Ram[(256*page+256)%2048] = 0x34, 0x92, 0x56
		})
		steps(t, "P12.4: JMP through $xxFF", m, 5)
		registers(t, "P12.4: JMP through $xxFF", m, api.Regs{S: 0xfd, P: 0x24, PC: 0x9234})
	}
	m := at(t, console(0x6c, 0xff, 0x50), as)
	steps(t, "P12.4: JMP ($50FF)", m, 5)
	logs(t, "P12.4: JMP ($50FF)", m, api.Access{Cycle: 3, Addr: 0x50ff, Val: 0x50}, api.Access{Cycle: 4, Addr: 0x5000, Val: 0x50})
	for first, want := range map[uint8]uint16{0x4c: 0x9234, 0x6c: 0xeaea} {
		c := console()
		copy(c.Prg[0xfe:], []byte{first, 0x34, 0x92})
		m := at(t, c, func(s *api.State) { s.Cpu.Regs.PC = 0x80fe })
		m.Step()
		registers(t, "P12.4: JMP over a page's end", m, api.Regs{S: 0xfd, P: 0x24, PC: want})
	}
}

// The stack pointer goes round in its page.
func TestStackWraps(t *testing.T) {
	low := func(s *api.State) { s.Cpu.Regs.S, s.Cpu.Regs.A = 0x00, 0x61 }
	high := func(s *api.State) {
		s.Cpu.Regs.S = 0xff
		s.Mem.Ram[0x100], s.Mem.Ram[0x101], s.Mem.Ram[0x102] = 0x21, 0x43, 0x52
	}
	for _, x := range []struct {
		name   string
		code   []uint8
		turn   func(s *api.State)
		cycles int
		want   api.Regs
		places []int
	}{
		{"PHA", []uint8{0x48}, low, 3, api.Regs{A: 0x61, S: 0xff, P: 0x24, PC: 0x8001}, []int{0x100}},
		{"PLA", []uint8{0x68}, high, 4, api.Regs{A: 0x21, S: 0x00, P: 0x24, PC: 0x8001}, nil},
		{"JSR", []uint8{0x20, 0x10, 0x90}, low, 6, api.Regs{A: 0x61, S: 0xfe, P: 0x24, PC: 0x9010}, []int{0x100, 0x1ff}},
		{"RTS", []uint8{0x60}, high, 6, api.Regs{S: 0x01, P: 0x24, PC: 0x4322}, nil},
		{"RTI", []uint8{0x40}, high, 6, api.Regs{S: 0x02, P: 0x21, PC: 0x5243}, nil},
	} {
		m := at(t, console(x.code...), x.turn)
		steps(t, "P12.4: "+x.name, m, x.cycles)
		registers(t, "P12.4: "+x.name, m, x.want)
		stores(t, "P12.4: "+x.name, m, x.places...)
	}
	for s, want := range [][]int{{0x100, 0x1ff, 0x1fe}, {0x101, 0x100, 0x1ff}, {0x102, 0x101, 0x100}} {
		turn := func(take uint8) func(x *api.State) {
			return func(x *api.State) { x.Cpu.Regs.S, x.Cpu.Take, x.Mem.Nmi = uint8(s), take, take == 2 }
		}
		m := at(t, console(0x00), turn(0))
		steps(t, "P12.4: BRK", m, 7)
		stores(t, "P12.4: BRK", m, want...)
		for take := uint8(1); take <= 2; take++ {
			m = at(t, console(), turn(take))
			steps(t, "P12.3: an entry", m, 7)
			stores(t, "P12.3: an entry", m, want...)
		}
		m = at(t, console(), turn(3))
		steps(t, "P12.3: a reset entry", m, 7)
		stores(t, "P12.3: a reset entry", m)
		registers(t, "P12.3: a reset entry", m, api.Regs{S: uint8(s + 253), P: 0x24, PC: 0x8000})
	}
}

// JSR reads its third byte behind its pushes, which may fall on it.
func TestCallWritesItself(t *testing.T) {
	m := at(t, console(), func(s *api.State) {
		s.Cpu.Regs.PC, s.Cpu.Regs.S = 0x01fd, 0xff
		copy(s.Mem.Ram[0x1fd:], []byte{0x20, 0x34, 0x12})
	})
	steps(t, "P12.4: JSR in the stack", m, 6)
	registers(t, "P12.4: JSR in the stack", m, api.Regs{S: 0xfd, P: 0x24, PC: 0x0134})
	if o := m.State().Mem.Open; o != 0x01 {
		t.Errorf("P12.4: JSR in the stack: Open is %#x", o)
	}
}

// The flags that are pulled have bit 5 set and bit 4 clear, whatever lies on the stack; those that are pushed by an instruction have both.
func TestFlagsOnTheStack(t *testing.T) {
	for p := range 256 {
		want := uint8(p)&0xcf | 0x20
		for _, code := range []uint8{0x28, 0x40} {
			m := at(t, console(code), func(s *api.State) { s.Mem.Ram[0x1fe] = uint8(p) })
			m.Step()
			if got := m.Cpu().Regs.P; got != want {
				t.Errorf("P12.4: %#x pulls %#x: P is %#x", code, p, got)
			}
		}
		for code, place := range map[uint8]int{0x08: 0x1fd, 0x00: 0x1fb} {
			m := at(t, console(code), func(s *api.State) { s.Cpu.Regs.P = want })
			m.Step()
			if got := m.State().Mem.Ram[place]; got != want|0x30 {
				t.Errorf("P12.4: %#x pushes %#x with P %#x", code, got, want)
			}
		}
	}
}

// Accesses for nothing are accesses: what they do to devices is done.
func TestDummyAccesses(t *testing.T) {
	blank := func(s *api.State) { s.Mem.Raster, s.Cpu.Regs.X = api.Raster{Line: 245, Vbl: true}, 1 }
	m := at(t, console(0xbd, 0x01, 0x20), blank) // LDA $2001,X: no wrong read
	steps(t, "P12.4: LDA $2001,X", m, 4)
	if a := m.Cpu().Regs.A; a != 0x80 {
		t.Errorf("P12.4: LDA $2001,X: %#x", a)
	}
	m = at(t, console(0x9d, 0x01, 0x20), blank) // STA $2001,X: the wrong read clears the flag
	steps(t, "P12.4: STA $2001,X", m, 5)
	logs(t, "P12.4: STA $2001,X", m, api.Access{Cycle: 3, Addr: 0x2002, Val: 0x80}, api.Access{Cycle: 4, Addr: 0x2002, Write: true})
	if m.State().Mem.Raster.Vbl {
		t.Error("P12.4: the wrong read does nothing")
	}
	m = at(t, console(0xee, 0x07, 0x20), func(s *api.State) { s.Mem.Video.V, s.Mem.Video.Buf = 0x2100, 0x11 }) // INC $2007
	steps(t, "P12.4: INC $2007", m, 6)
	if v := m.State().Mem.Video; v.V != 0x2103 || v.Nt[0x101] != 0x11 || v.Nt[0x102] != 0x12 {
		t.Errorf("P12.4: INC $2007 leaves V %#x", v.V)
	}
	// MMC1 takes the first of two writes in a row, and loses the second: of INC the byte as it was.
	c := console(0xee, 0x01, 0x80)
	c.Mapper = api.MMC1
	m = at(t, c, func(s *api.State) { s.Mem.Cycle = 100 })
	steps(t, "P12.4: INC $8001", m, 6)
	if b := m.State().Mem.Board; b.Last != 105 || b.Shift != 0x18 {
		t.Errorf("P12.4: INC $8001 leaves %+v", b)
	}
	logs(t, "P12.4: INC $8001", m, api.Access{Cycle: 104, Addr: 0x8001, Val: 0x01, Write: true}, api.Access{Cycle: 105, Addr: 0x8001, Val: 0x02, Write: true})
}
