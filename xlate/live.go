package xlate

import (
	"tandem/alu"
	"tandem/api"
)

// allFlags is the flags that a program can see.
const allFlags = api.FlagN | api.FlagV | api.FlagD | api.FlagI | api.FlagZ | api.FlagC

// markLive finds which flags of each instruction somebody can see: an instruction further on that needs them, or whoever goes on where the block is left.
func markLive(pieces []piece) {
	seen := allFlags
	for i := len(pieces) - 1; i >= 0; i-- {
		p := &pieces[i]
		if leftBehind(p.inst.Kind) {
			seen = allFlags
		}
		sets := alu.Sets(p.inst.Op)
		p.live = sets & seen
		seen = seen&^sets | alu.Needs(p.inst.Op)
		if leftAhead(*p) {
			seen = allFlags
		}
	}
}

// leftBehind tells whether a block may be left behind an instruction, as that stores.
func leftBehind(k api.Kind) bool {
	switch k {
	case api.KindWrite, api.KindRmw, api.KindPush, api.KindCall:
		return true
	}
	return false
}

// leftAhead tells whether a block may be left ahead of an instruction, as that may touch what is not plain.
func leftAhead(p piece) bool {
	switch recipeOf(p.inst)[0] {
	case api.MicroReturn, api.MicroVia:
		return true
	case api.MicroAddr:
		return p.inst.Mode == api.ModeIzx || indexed(p.inst.Mode) ||
			p.inst.Mode == api.ModeAbs && p.operand() >= ramEnd
	}
	return false
}
