package xlate_test

import (
	"tandem/alu"
	"tandem/api"
	"tandem/isa"
	"tandem/xlate"
)

// toldRun is a block that is being done access by access, as isa.Shape lists them: it is left ahead of an instruction one of whose accesses beside those of the code is not plain, and what the last access left is on the bus.
type toldRun struct {
	m      xlate.Memory
	r      api.Regs
	open   uint8
	thrown bool
}

// toldOutcome is what Run answers.
func toldOutcome(b api.Block, r api.Regs, open uint8, m xlate.Memory) api.Outcome {
	x := &toldRun{m: m, r: r, open: open}
	x.r.PC = b.PC
	cycles, done := 0, 0
	code := []byte(b.Bytes)
	for len(code) > 0 {
		a := x.act(code)
		if !a.mayBeDone() {
			return api.Outcome{Regs: x.r, Open: x.open, Cycles: cycles, Insts: done, Left: api.LeftGuard}
		}
		for k := range a.shape {
			a.access(k)
		}
		x.end(a)
		cycles, done, code = cycles+len(a.shape), done+1, code[a.Len:]
		if x.thrown {
			return api.Outcome{Regs: x.r, Open: x.open, Cycles: cycles, Insts: done, Left: api.LeftStore}
		}
	}
	return api.Outcome{Regs: x.r, Open: x.open, Cycles: cycles, Insts: done, Left: api.LeftEnd}
}

// toldAct is an instruction that is to be done.
type toldAct struct {
	*toldRun
	toldInst
	shape    []api.Acc
	n        int // behind the instruction
	e, wrong int // the operand's address, or a branch's target; and the same in the wrong page
	to       int // where it goes on
	v        api.Alu
	out      []uint8 // what it pushes
	fetched  int     // bytes of its operand
}

// act finds out all about the instruction at PC ahead of its first access.
func (x *toldRun) act(code []byte) *toldAct {
	i := isa.Decode(code[0])
	a := &toldAct{toldRun: x, toldInst: toldInst{Inst: i, p: int(x.r.PC), bytes: code[:i.Len]}}
	a.n = a.p + i.Len
	a.to = a.n
	a.e, a.wrong = x.address(i.Mode, a.operand())
	a.v = api.Alu{A: x.r.A, X: x.r.X, Y: x.r.Y, S: x.r.S, P: x.r.P}
	taken := alu.Taken(i.Op, x.r.P)
	switch i.Op {
	case api.OpJMP:
		a.to = a.operand()
	case api.OpJSR:
		a.to, a.out = a.operand(), []uint8{uint8((a.p + 2) / 256), uint8((a.p + 2) % 256)}
	case api.OpPHA, api.OpPHP:
		a.out = []uint8{alu.Do(i.Op, a.v).M}
	case api.OpRTS:
		a.e = int(x.stack(1)) + 256*int(x.stack(2))
		a.to = a.e + 1
	}
	if taken {
		a.e, a.to, a.wrong = a.target(), a.target(), a.n/256*256+a.target()%256
	}
	a.shape = isa.Shape(code[0], a.e != a.wrong, taken)
	return a
}

// address is the operand's address, and the same in the wrong page.
func (x *toldRun) address(mode api.Mode, operand int) (e, wrong int) {
	zero := func(at int) int { return int(x.m.Load(uint16(at%256))) + 256*int(x.m.Load(uint16((at+1)%256))) }
	base, index := operand, 0
	switch mode {
	case api.ModeZpx:
		base = (operand + int(x.r.X)) % 256
	case api.ModeZpy:
		base = (operand + int(x.r.Y)) % 256
	case api.ModeIzx:
		base = zero(operand + int(x.r.X))
	case api.ModeIzy:
		base, index = zero(operand), int(x.r.Y)
	case api.ModeAbx:
		index = int(x.r.X)
	case api.ModeAby:
		index = int(x.r.Y)
	}
	e = (base + index) % 65536
	return e, base/256*256 + e%256
}

// stack is the byte so many above the stack pointer.
func (x *toldRun) stack(above int) uint8 {
	return x.m.Load(uint16(0x100 + (int(x.r.S)+above)%256))
}

// pointer is where the two bytes of a JMP's target lie.
func (a *toldAct) pointer() (low, high int) {
	return a.operand(), a.operand()/256*256 + (a.operand()+1)%256
}

// mayBeDone tells whether all accesses are plain that must be.
func (a *toldAct) mayBeDone() bool {
	plain := func(addr int, write bool) bool { return addr < 0x2000 || a.m.Plain(uint16(addr), write) }
	low, high := a.pointer()
	for k, acc := range a.shape {
		ok := true
		switch acc {
		case api.AccWrong:
			ok = a.Kind == api.KindBranch || plain(a.wrong, false)
		case api.AccRead:
			ok = plain(a.e, false)
		case api.AccBack, api.AccWrite:
			ok = plain(a.e, true)
		case api.AccLow, api.AccHigh:
			ok = a.Mode != api.ModeInd || plain(low, false) && plain(high, false)
		case api.AccOperand:
			ok = !a.isBack(k) || plain(a.e, false)
		}
		if !ok {
			return false
		}
	}
	return true
}

// isBack tells whether an access is RTS's read of the address that it has pulled.
func (a *toldAct) isBack(k int) bool { return a.Op == api.OpRTS && a.shape[k] == api.AccOperand }

// access makes one access.
func (a *toldAct) access(k int) {
	low, high := a.pointer()
	switch acc := a.shape[k]; acc {
	case api.AccOperand:
		if a.isBack(k) {
			a.read(a.e)
			return
		}
		a.fetched++
		a.open = a.bytes[a.fetched]
		a.v.M = a.open
	case api.AccNext:
		a.read(a.n)
		a.v.M = 0
	case api.AccWrong:
		a.read(a.wrong)
	case api.AccRead:
		a.read(a.e)
	case api.AccLow:
		if a.Mode == api.ModeInd {
			a.read(low)
			a.to = int(a.open)
		}
	case api.AccHigh:
		if a.Mode == api.ModeInd {
			a.read(high)
			a.to += 256 * int(a.open)
		}
	case api.AccWrite:
		a.v = alu.Do(a.Op, a.v)
		a.write(a.e, a.v.M)
	case api.AccPush:
		a.write(0x100+int(a.v.S), a.out[0])
		a.out = a.out[1:]
		a.v.S--
	case api.AccPull:
		a.v.S++
		a.read(0x100 + int(a.v.S))
	}
}

func (a *toldAct) read(addr int) {
	a.open = a.m.Load(uint16(addr))
	a.v.M = a.open
}

func (a *toldAct) write(addr int, v uint8) {
	a.thrown = a.m.Store(uint16(addr), v) || a.thrown
	a.open = v
}

// end does the operation of an instruction that has not written it already, and goes on.
func (x *toldRun) end(a *toldAct) {
	switch {
	case a.Mode == api.ModeAcc:
		a.v = alu.Acc(a.Op, a.v)
	case a.Kind == api.KindPlain || a.Kind == api.KindRead || a.Kind == api.KindPull:
		a.v = alu.Do(a.Op, a.v)
	}
	x.r = api.Regs{A: a.v.A, X: a.v.X, Y: a.v.Y, S: a.v.S, P: a.v.P, PC: uint16(a.to)}
}
