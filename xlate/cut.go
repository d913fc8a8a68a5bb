package xlate

import (
	"tandem/api"
	"tandem/isa"
)

// Where code of a tag lies, and how much of it lies together.
const (
	ramEnd    = 0x2000
	ramSize   = 0x0800
	workStart = 0x6000
	workEnd   = 0x8000
	lastBank  = 127
	stackPage = 0x0100
	pageSize  = 0x0100
)

// piece is an instruction that a block takes in.
type piece struct {
	inst   api.Inst
	at     uint16 // its address
	bytes  []byte
	number int   // of instructions ahead of it
	cycle  int   // of cycles ahead of it, without penalties
	live   uint8 // of the flags that it sets those that somebody can see
}

// mayLie tells whether code with that tag can lie at that address.
func mayLie(pc uint16, tag int) bool {
	switch tag {
	case api.TagRam:
		return pc < ramEnd
	case api.TagWork:
		return pc >= workStart && pc < workEnd
	}
	return tag >= 0 && tag <= lastBank && pc >= workEnd
}

// windowEnd is the address behind the last byte that lies together with the one at pc.
func windowEnd(pc uint16, tag int) int {
	size := api.Bank8
	if tag == api.TagRam {
		size = ramSize
	}
	return (int(pc)/size + 1) * size
}

// cut cuts code into the instructions of a block.
func cut(pc uint16, tag int, code []byte, limit int) []piece {
	var pieces []piece
	next := piece{at: pc}
	for len(code) > 0 && next.number < limit {
		next.inst = isa.Decode(code[0])
		if !mayEnter(next, tag, len(code)) {
			break
		}
		next.bytes, code = split(code, next.inst.Len)
		pieces = append(pieces, next)
		if endsBehind(next.inst.Kind) {
			break
		}
		next = piece{at: next.behind(), number: next.number + 1, cycle: next.cycle + next.inst.Cycles}
	}
	return pieces
}

// mayEnter tells whether a block takes an instruction in, of whose code so many bytes are there. One byte behind it must be among them, as many an instruction reads it for nothing.
func mayEnter(p piece, tag, there int) bool {
	switch p.inst.Op {
	case api.OpCLI, api.OpSEI, api.OpPLP, api.OpRTI, api.OpBRK, api.OpJAM:
		return false
	case api.OpJSR: // its pushes come ahead of the read of its third byte
		if tag == api.TagRam && (p.at+2)%ramSize/pageSize == stackPage/pageSize {
			return false
		}
	}
	return there > p.inst.Len
}

// endsBehind tells whether a block ends behind an instruction.
func endsBehind(k api.Kind) bool {
	switch k {
	case api.KindBranch, api.KindJump, api.KindCall, api.KindReturn:
		return true
	}
	return false
}

// behind is the address behind an instruction.
func (p piece) behind() uint16 {
	return p.at + uint16(p.inst.Len)
}

// operand is an instruction's operand: no byte, one or two.
func (p piece) operand() uint16 {
	v := uint16(0)
	for i := len(p.bytes) - 1; i > 0; i-- {
		v = v<<8 | uint16(p.bytes[i])
	}
	return v
}

// target is where a branch leads.
func (p piece) target() uint16 {
	return p.behind() + uint16(int8(p.operand()))
}

// penalty is how many cycles more than its least an instruction may take.
func (p piece) penalty() int {
	switch p.inst.Kind {
	case api.KindBranch:
		if crosses(p.behind(), p.target()) {
			return 2
		}
		return 1
	case api.KindRead:
		if indexed(p.inst.Mode) {
			return 1
		}
	}
	return 0
}

// indexed tells whether a mode adds an index that may lead into another page.
func indexed(m api.Mode) bool {
	return m == api.ModeAbx || m == api.ModeAby || m == api.ModeIzy
}

// crosses tells whether two addresses lie in different pages.
func crosses(a, b uint16) bool {
	return a/pageSize != b/pageSize
}

func withBytes(code []byte, p piece) []byte { return append(code, p.bytes...) }

func withLeast(n int, p piece) int { return n + p.inst.Cycles }

func withMost(n int, p piece) int { return n + p.inst.Cycles + p.penalty() }
