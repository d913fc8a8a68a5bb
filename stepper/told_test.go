package stepper_test

import (
	"iter"
	"testing"

	"tandem/alu"
	"tandem/api"
	"tandem/bus"
	"tandem/isa"
)

// The document's words a second time: the CPU as one program that runs for ever, instruction by instruction, and that waits ahead of each of its accesses until it is asked for.

// told is such a machine.
type told struct {
	api.Cpu
	bus    *bus.Bus
	events []api.Event
	done   int        // cycles of the present instruction or entry
	last   api.Access // that of the last cycle
	made   bool       // whether it had one
	polls  []uint8    // what a poll would find at the end of each of them
	wait   func(a api.Access, made bool) bool
	next   func() (api.Access, bool, bool)
}

// broken ends the program.
type broken struct{}

// tell is the machine that goes on from a state.
func tell(t *testing.T, c api.Cart, s api.State) *told {
	t.Helper()
	b, e := bus.From(c, s.Mem)
	if e != api.OK {
		t.Fatalf("a state that isn't valid: %d", e)
	}
	x := &told{Cpu: s.Cpu, bus: b}
	next, stop := iter.Pull2(x.program)
	t.Cleanup(stop)
	x.next = next
	x.next()
	return x
}

func (x *told) program(yield func(a api.Access, made bool) bool) {
	defer func() {
		if r := recover(); r != nil && r != any(broken{}) {
			panic(r)
		}
	}()
	x.wait = yield
	for {
		x.done, x.polls = 0, nil
		x.rest()
		x.between()
	}
}

// rest hands over the cycle that was made, with all that came of it.
func (x *told) rest() {
	if !x.wait(x.last, x.made) {
		panic(broken{})
	}
}

func (x *told) Tick() (api.Access, bool) {
	if x.done == 0 && x.bus.Cycle() >= api.MaxCycle {
		return api.Access{}, false
	}
	a, made, _ := x.next()
	return a, made
}

func (x *told) State() (api.State, bool) {
	if x.done != 0 {
		return api.State{}, false
	}
	return api.State{Cpu: x.Cpu, Mem: x.bus.Mem()}, true
}

func (x *told) Reset() api.Errno {
	if x.done != 0 {
		return api.ErrState
	}
	x.bus.Reset()
	x.Take, x.Jam = 3, false
	return api.OK
}

func (x *told) Play(t api.Turn) (int, api.Errno) {
	if x.done != 0 {
		return 0, api.ErrState
	}
	if uint64(x.bus.Cycle())+uint64(t.Budget) > 1<<62-1 {
		return 0, api.ErrArg
	}
	if t.Reset {
		x.Reset()
	}
	x.bus.Press(t.One, t.Two)
	n := 0
	for n < int(t.Budget) || x.done != 0 {
		x.Tick()
		n++
	}
	return n, api.OK
}

func (x *told) Events() []api.Event {
	l := x.events
	x.events = nil
	return l
}

func (x *told) between() {
	switch {
	case x.Jam:
		x.bus.Idle(1)
		x.last, x.made = api.Access{}, false
	case x.bus.Dma():
		x.last, x.made = x.bus.DmaStep(x.Regs.PC), true
	case x.Take == 3:
		x.reset()
	case x.Take != 0:
		kind := x.Take
		x.Take = 0
		first := x.bus.Cycle()
		x.get(int(x.Regs.PC))
		x.get(int(x.Regs.PC))
		x.leave(first, kind, x.Regs.P)
	default:
		x.instruction()
	}
}

func (x *told) reset() {
	x.Take = 0
	first, r := x.bus.Cycle(), &x.Regs
	x.get(int(r.PC))
	x.get(int(r.PC))
	for range 3 {
		x.get(256 + int(r.S))
		r.S--
	}
	low := x.get(0xfffc)
	r.P |= 4
	r.PC = uint16(low + 256*x.get(0xfffd))
	x.events = append(x.events, api.Event{Cycle: first, Kind: 3, Vector: 0xfffc})
}

// leave is the last five cycles of a BRK or of an IRQ or NMI entry; p is what is pushed of the flags.
func (x *told) leave(first int, kind, p uint8) {
	r := &x.Regs
	e := api.Event{Cycle: first, Kind: kind, PC: r.PC, P: p, Vector: 0xfffe}
	x.push(uint8(r.PC / 256))
	x.push(uint8(r.PC % 256))
	x.push(p)
	if nmi, _ := x.bus.Poll(); nmi {
		e.Vector = 0xfffa
		x.bus.Ack()
	}
	low := x.get(int(e.Vector))
	r.P |= 4
	r.PC = uint16(low + 256*x.get(int(e.Vector)+1))
	x.events = append(x.events, e)
}

// get is a cycle with a read, at an address modulo 65536.
func (x *told) get(addr int) int {
	x.ahead()
	x.last, x.made = api.Access{Cycle: x.bus.Cycle(), Addr: uint16(addr)}, true
	x.last.Val = x.bus.Read(uint16(addr))
	x.behind()
	return int(x.last.Val)
}

// put is a cycle with a write.
func (x *told) put(addr int, v uint8) {
	x.ahead()
	x.last, x.made = api.Access{Cycle: x.bus.Cycle(), Addr: uint16(addr), Val: v, Write: true}, true
	x.bus.Write(uint16(addr), v)
	x.behind()
}

func (x *told) ahead() {
	if x.done > 0 {
		x.rest()
	}
}

func (x *told) behind() {
	x.done++
	found := uint8(0)
	nmi, irq := x.bus.Poll()
	if irq && x.Regs.P&4 == 0 {
		found = 1
	}
	if nmi {
		found = 2
	}
	x.polls = append(x.polls, found)
}

// code reads the next byte of the code.
func (x *told) code() int {
	v := x.get(int(x.Regs.PC))
	x.Regs.PC++
	return v
}

func (x *told) push(v uint8) {
	x.put(256+int(x.Regs.S), v)
	x.Regs.S--
}

func (x *told) pull() int {
	x.Regs.S++
	return x.get(256 + int(x.Regs.S))
}

// do does an operation on the registers and an operand, which it answers.
func (x *told) do(op api.Op, operand int) uint8 {
	r := &x.Regs
	o := alu.Do(op, api.Alu{A: r.A, X: r.X, Y: r.Y, S: r.S, P: r.P, M: uint8(operand)})
	r.A, r.X, r.Y, r.S, r.P = o.A, o.X, o.Y, o.S, o.P
	return o.M
}

func (x *told) instruction() {
	first, r := x.bus.Cycle(), &x.Regs
	i := isa.Decode(uint8(x.get(int(r.PC))))
	if i.Kind == api.KindJam {
		x.Jam = true
		return
	}
	r.PC++
	switch i.Kind {
	case api.KindBreak:
		x.code()
		p := r.P | 0x30
		x.leave(first, 0, p)
		return
	case api.KindBranch:
		x.branch(i.Op)
		return
	case api.KindPlain:
		x.plain(i)
	case api.KindRead, api.KindFixed:
		v := x.get(x.address(i.Mode, i.Kind == api.KindFixed))
		x.do(i.Op, v)
	case api.KindWrite:
		addr := x.address(i.Mode, true)
		x.put(addr, x.do(i.Op, 0))
	case api.KindRmw:
		addr := x.address(i.Mode, true)
		v := x.get(addr)
		x.put(addr, uint8(v))
		x.put(addr, x.do(i.Op, v))
	case api.KindPush:
		x.get(int(r.PC))
		x.push(x.do(i.Op, 0))
	case api.KindPull:
		x.get(int(r.PC))
		x.get(256 + int(r.S))
		x.do(i.Op, x.pull())
	default:
		x.flow(i)
	}
	x.Take = x.polls[len(x.polls)-2]
}

func (x *told) plain(i api.Inst) {
	r := &x.Regs
	switch i.Mode {
	case api.ModeImm:
		x.do(i.Op, x.code())
	case api.ModeAcc:
		x.get(int(r.PC))
		r.A, r.P = alu.Shift(i.Op, r.A, r.P)
	default:
		x.get(int(r.PC))
		x.do(i.Op, 0)
	}
}

func (x *told) flow(i api.Inst) {
	r := &x.Regs
	switch i.Op {
	case api.OpJSR:
		low := x.code()
		x.get(256 + int(r.S))
		x.push(uint8(r.PC / 256))
		x.push(uint8(r.PC % 256))
		r.PC = uint16(low + 256*x.get(int(r.PC)))
	case api.OpRTS, api.OpRTI:
		x.get(int(r.PC))
		x.get(256 + int(r.S))
		if i.Op == api.OpRTI {
			x.do(i.Op, x.pull())
		}
		low := x.pull()
		r.PC = uint16(low + 256*x.pull())
		if i.Op == api.OpRTS {
			x.code()
		}
	case api.OpJMP:
		low := x.code()
		high := x.code()
		if i.Mode == api.ModeInd {
			next := 256*high + (low+1)%256
			low = x.get(256*high + low)
			high = x.get(next)
		}
		r.PC = uint16(256*high + low)
	}
}

func (x *told) branch(op api.Op) {
	r := &x.Regs
	distance := x.code()
	if distance > 127 {
		distance -= 256
	}
	if alu.Taken(op, r.P) {
		behind, to := r.PC, uint16(int(r.PC)+distance)
		x.get(int(behind))
		if to/256 != behind/256 {
			x.get(int(behind/256*256 + to%256))
		}
		r.PC = to
	}
	x.Take = x.polls[0]
	if len(x.polls) == 4 && x.Take == 0 {
		x.Take = x.polls[2]
	}
}

// address is the operand's; always: also an index that crosses no page takes its cycle.
func (x *told) address(mode api.Mode, always bool) int {
	first := x.code()
	switch mode {
	case api.ModeZp:
		return first
	case api.ModeZpx:
		x.get(first)
		return (first + int(x.Regs.X)) % 256
	case api.ModeZpy:
		x.get(first)
		return (first + int(x.Regs.Y)) % 256
	case api.ModeIzx:
		x.get(first)
		at := first + int(x.Regs.X)
		low := x.get(at % 256)
		return low + 256*x.get((at+1)%256)
	case api.ModeIzy:
		low := x.get(first)
		return x.indexed(low, x.get((first+1)%256), x.Regs.Y, always)
	}
	second := x.code()
	switch mode {
	case api.ModeAbx:
		return x.indexed(first, second, x.Regs.X, always)
	case api.ModeAby:
		return x.indexed(first, second, x.Regs.Y, always)
	}
	return first + 256*second
}

func (x *told) indexed(low, high int, index uint8, always bool) int {
	low += int(index)
	if always || low > 255 {
		x.get(256*high + low%256)
	}
	return (256*high + low) % 65536
}
