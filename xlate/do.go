package xlate

import (
	"tandem/alu"
	"tandem/api"
)

// lengths is how many bytes an instruction of each mode has, so that code that was looked at once is not decoded again.
var lengths = [api.ModeRel + 1]uint16{
	api.ModeImp: 1, api.ModeAcc: 1, api.ModeImm: 2, api.ModeZp: 2, api.ModeZpx: 2, api.ModeZpy: 2, api.ModeIzx: 2,
	api.ModeIzy: 2, api.ModeAbs: 3, api.ModeAbx: 3, api.ModeAby: 3, api.ModeInd: 3, api.ModeRel: 2,
}

// doing is a block that is being done.
type doing struct {
	mem    Memory
	regs   api.Regs // PC is the address of the instruction that is being done
	open   uint8
	extra  int  // penalties of the instructions that are done
	thrown bool // a store has thrown the block away

	ops  []api.Micro // the micro-ops of the instruction
	next uint16      // where it goes on
	at   uint16      // the operand's address
	val  uint8       // the operand
}

// block does instructions up to the end, or to where the block is left. It answers the micro-ops of those that are not done.
func (d *doing) block(rest []api.Micro) ([]api.Micro, uint8) {
	for len(rest) > 0 {
		ops, behind := split(rest, lead(rest, together))
		if !d.instruction(ops) {
			return rest, api.LeftGuard
		}
		rest = behind
		if d.thrown {
			return rest, api.LeftStore
		}
	}
	return rest, api.LeftEnd
}

// together tells whether two micro-ops are of one instruction.
func together(a, b api.Micro) bool { return a.Inst == b.Inst }

// instruction does the micro-ops of one instruction. It answers false, and has done nothing, if the instruction may not be done here: which the first of them finds out.
func (d *doing) instruction(ops []api.Micro) bool {
	d.ops, d.val = ops, 0
	d.next = d.regs.PC + lengthOf(ops[0].Mode)
	if !while(ops, d.micro) {
		return false
	}
	d.regs.PC = d.next
	return true
}

// lengthOf is how many bytes an instruction of a mode has.
func lengthOf(m api.Mode) uint16 {
	if m < 0 || int(m) >= len(lengths) {
		return 0
	}
	return lengths[m]
}

// micro does one micro-op. It answers false if the block is to be left ahead of the instruction.
func (d *doing) micro(o api.Micro) bool {
	switch o.Kind {
	case api.MicroAddr:
		return d.reach(o)
	case api.MicroLoad:
		d.load(d.at)
	case api.MicroConst:
		d.val, d.open = uint8(o.Arg), uint8(o.Arg)
	case api.MicroAlu:
		d.operate(o)
	case api.MicroStore:
		d.store(d.at, d.val)
	case api.MicroPush:
		d.push(d.val)
	case api.MicroPull:
		d.regs.S++
		d.load(d.top())
	case api.MicroBranch:
		d.branch(o)
	case api.MicroJump:
		d.goTo(o.Arg)
	case api.MicroVia:
		return d.via(o.Arg)
	case api.MicroCall:
		d.call(o.Arg)
	case api.MicroReturn:
		return d.goBack()
	}
	return true
}

// operate does the instruction's operation, with all its flags: a dead one costs no more than a live one here.
func (d *doing) operate(o api.Micro) {
	do := alu.Do
	if o.Mode == api.ModeAcc {
		do = alu.Acc
	}
	r := &d.regs
	out := do(o.Op, api.Alu{A: r.A, X: r.X, Y: r.Y, S: r.S, P: r.P, M: d.val})
	r.A, r.X, r.Y, r.S, r.P, d.val = out.A, out.X, out.Y, out.S, out.P, out.M
	if len(d.ops) == 1 { // no operand: the last access is the one of the byte behind the opcode
		d.open = d.mem.Load(d.next)
	}
}

// load reads the operand.
func (d *doing) load(addr uint16) {
	d.val = d.mem.Load(addr)
	d.open = d.val
}

// store writes a byte, which may throw the running block away.
func (d *doing) store(addr uint16, v uint8) {
	if d.mem.Store(addr, v) {
		d.thrown = true
	}
	d.open = v
}
