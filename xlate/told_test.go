package xlate_test

import (
	"fmt"
	"slices"
	"strings"

	"tandem/alu"
	"tandem/api"
	"tandem/isa"
)

// The chapter's words a second time: the table of micro-ops as it stands there, each flag followed forwards, and a block done access by access, as isa.Shape lists them.

// kindNames is the micro-ops' names, from number 1 on.
const kindNames = "addr load const alu store push pull branch jump via call return"

func isOneOf(name, list string) bool { return slices.Contains(strings.Fields(list), name) }

// toldInst is an instruction of a block.
type toldInst struct {
	api.Inst
	name  string
	p     int
	bytes []byte
}

func (x toldInst) operand() int {
	switch x.Len {
	case 2:
		return int(x.bytes[1])
	case 3:
		return int(x.bytes[1]) + 256*int(x.bytes[2])
	}
	return 0
}

func (x toldInst) target() int {
	distance := x.operand()
	if distance > 127 {
		distance -= 256
	}
	return (x.p + 2 + distance + 65536) % 65536
}

func (x toldInst) addrs() bool {
	return slices.Contains([]api.Kind{api.KindRead, api.KindFixed, api.KindWrite, api.KindRmw}, x.Kind)
}

// micros is the instruction's row of the table.
func (x toldInst) micros() string {
	switch x.Kind {
	case api.KindPlain:
		if x.Mode == api.ModeImm {
			return "const alu"
		}
		return "alu"
	case api.KindRead:
		return "addr load alu"
	case api.KindFixed:
		return "addr load"
	case api.KindWrite:
		return "addr alu store"
	case api.KindRmw:
		return "addr load alu store"
	case api.KindBranch:
		return "branch"
	}
	switch x.name {
	case "JMP":
		if x.Mode == api.ModeInd {
			return "via"
		}
		return "jump"
	case "JSR":
		return "call"
	case "RTS":
		return "return"
	case "PHA", "PHP":
		return "alu push"
	case "PLA":
		return "pull alu"
	}
	return "no row for " + x.name
}

func (x toldInst) leftBehind() bool {
	return x.Kind == api.KindWrite || x.Kind == api.KindRmw || isOneOf(x.name, "PHA PHP JSR")
}

func (x toldInst) leftAhead() bool {
	if x.name == "RTS" || x.name == "JMP" && x.Mode == api.ModeInd {
		return true
	}
	switch x.Mode {
	case api.ModeAbx, api.ModeAby, api.ModeIzx, api.ModeIzy:
		return x.addrs()
	}
	return x.addrs() && x.Mode == api.ModeAbs && x.operand() >= 0x2000
}

// isSeen follows a flag that instruction i sets.
func isSeen(l []toldInst, i int, flag uint8) bool {
	if l[i].leftBehind() {
		return true
	}
	for _, x := range l[i+1:] {
		if x.leftAhead() || alu.Needs(x.Op)&flag != 0 {
			return true
		}
		if alu.Sets(x.Op)&flag != 0 {
			return false
		}
		if x.leftBehind() {
			return true
		}
	}
	return true
}

// takenIn is the instructions that a block takes in.
func takenIn(pc uint16, tag int, code []byte, limit int) []toldInst {
	var l []toldInst
	for at := 0; len(l) < limit && at < len(code); {
		x := toldInst{Inst: isa.Decode(code[at]), p: int(pc) + at}
		x.name = isa.Name(x.Op)
		if isOneOf(x.name, "CLI SEI PLP RTI BRK JAM") || at+x.Len+1 > len(code) {
			return l
		}
		if third := (x.p + 2) % 0x800; x.name == "JSR" && tag == api.TagRam && third >= 0x100 && third <= 0x1ff {
			return l
		}
		x.bytes = code[at : at+x.Len]
		l = append(l, x)
		if x.Kind == api.KindBranch || isOneOf(x.name, "JMP JSR RTS") {
			return l
		}
		at += x.Len
	}
	return l
}

// toldBlock is the block of code that no error applies to.
func toldBlock(pc uint16, tag int, code []byte, limit int) api.Block {
	b := api.Block{PC: pc, Tag: tag}
	l := takenIn(pc, tag, code, limit)
	for i, x := range l {
		for _, kind := range strings.Fields(x.micros()) {
			o := api.Micro{Kind: api.MicroKind(1 + slices.Index(strings.Fields(kindNames), kind)), Op: x.Op, Mode: x.Mode, Inst: i, Cycle: b.Least}
			if isOneOf(kind, "addr const jump via call") {
				o.Arg = uint16(x.operand())
			}
			if kind == "branch" {
				o.Arg = uint16(x.target())
			}
			for _, flag := range []uint8{0x80, 0x40, 0x08, 0x04, 0x02, 0x01} {
				if kind == "alu" && alu.Sets(x.Op)&flag != 0 && isSeen(l, i, flag) {
					o.Flags |= flag
				}
			}
			b.Ops = append(b.Ops, o)
		}
		b.Insts++
		b.Bytes += string(x.bytes)
		b.Least += isa.Cycles(x.bytes[0], false, false)
		b.Most += isa.Cycles(x.bytes[0], x.Kind != api.KindBranch || x.target()/256 != (x.p+2)/256, true)
	}
	return b
}

// toldText is a block's text.
func toldText(b api.Block) string {
	s := fmt.Sprintf("block $%04X tag %d insts %d cycles %d %d\n", b.PC, b.Tag, b.Insts, b.Least, b.Most)
	for _, o := range b.Ops {
		kind := strings.Fields(kindNames)[o.Kind-1]
		s += fmt.Sprintf("%d +%d %s %s", o.Inst, o.Cycle, kind, isa.Name(o.Op))
		if isOneOf(kind, "addr const branch jump via call") {
			s += fmt.Sprintf(" $%04X", o.Arg)
		}
		if kind == "alu" && o.Flags != 0 {
			s += " " + letters(o.Flags)
		}
		s += "\n"
	}
	return s
}

// letters is the letters of flags.
func letters(flags uint8) string {
	s := ""
	for _, x := range []struct {
		flag   uint8
		letter string
	}{{api.FlagN, "N"}, {api.FlagV, "V"}, {api.FlagD, "D"}, {api.FlagI, "I"}, {api.FlagZ, "Z"}, {api.FlagC, "C"}} {
		if flags&x.flag != 0 {
			s += x.letter
		}
	}
	return s
}
