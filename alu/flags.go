package alu

import "tandem/api"

// Flags that stand together in the tables below.
const (
	flagsNZ   = api.FlagN | api.FlagZ
	flagsNVZ  = flagsNZ | api.FlagV
	flagsNZC  = flagsNZ | api.FlagC
	flagsNVZC = flagsNVZ | api.FlagC
	flagsCD   = api.FlagC | api.FlagD
	flagsReal = flagsNVZC | api.FlagD | api.FlagI // those that are more than bits of a pushed byte
	flagsAll  = flagsReal | api.FlagB | api.FlagU
)

// needs is the flags that each operation looks at: none, where it isn't listed.
var needs = [api.OpCount]uint8{
	api.OpADC: flagsCD, api.OpSBC: flagsCD, api.OpARR: flagsCD, api.OpRRA: flagsCD, api.OpISC: flagsCD,
	api.OpROL: api.FlagC, api.OpROR: api.FlagC, api.OpRLA: api.FlagC,
	api.OpPHP: flagsReal, api.OpBRK: flagsReal,
	api.OpBCC: api.FlagC, api.OpBCS: api.FlagC,
	api.OpBEQ: api.FlagZ, api.OpBNE: api.FlagZ,
	api.OpBMI: api.FlagN, api.OpBPL: api.FlagN,
	api.OpBVC: api.FlagV, api.OpBVS: api.FlagV,
}

// sets is the flags that each operation makes anew: none, where it isn't listed.
var sets = [api.OpCount]uint8{
	api.OpLDA: flagsNZ, api.OpLDX: flagsNZ, api.OpLDY: flagsNZ, api.OpLAX: flagsNZ, api.OpLAS: flagsNZ, api.OpPLA: flagsNZ,
	api.OpTAX: flagsNZ, api.OpTAY: flagsNZ, api.OpTXA: flagsNZ, api.OpTYA: flagsNZ, api.OpTSX: flagsNZ,
	api.OpAND: flagsNZ, api.OpORA: flagsNZ, api.OpEOR: flagsNZ,
	api.OpINC: flagsNZ, api.OpINX: flagsNZ, api.OpINY: flagsNZ, api.OpDEC: flagsNZ, api.OpDEX: flagsNZ, api.OpDEY: flagsNZ,
	api.OpASL: flagsNZC, api.OpLSR: flagsNZC, api.OpROL: flagsNZC, api.OpROR: flagsNZC,
	api.OpSLO: flagsNZC, api.OpSRE: flagsNZC, api.OpRLA: flagsNZC, api.OpDCP: flagsNZC,
	api.OpCMP: flagsNZC, api.OpCPX: flagsNZC, api.OpCPY: flagsNZC, api.OpSBX: flagsNZC,
	api.OpANC: flagsNZC, api.OpALR: flagsNZC,
	api.OpADC: flagsNVZC, api.OpSBC: flagsNVZC, api.OpARR: flagsNVZC, api.OpRRA: flagsNVZC, api.OpISC: flagsNVZC,
	api.OpBIT: flagsNVZ,
	api.OpCLC: api.FlagC, api.OpSEC: api.FlagC,
	api.OpCLD: api.FlagD, api.OpSED: api.FlagD,
	api.OpCLI: api.FlagI, api.OpSEI: api.FlagI, api.OpBRK: api.FlagI,
	api.OpCLV: api.FlagV,
	api.OpPLP: flagsAll, api.OpRTI: flagsAll,
}

// Needs is the flags that an operation looks at.
func Needs(op api.Op) uint8 {
	if op < 0 || op >= api.OpCount {
		return 0
	}
	return needs[op]
}

// Sets is the flags that an operation always puts anew.
func Sets(op api.Op) uint8 {
	if op < 0 || op >= api.OpCount {
		return 0
	}
	return sets[op]
}

// Taken tells whether a branch is taken with these flags.
func Taken(op api.Op, p uint8) bool {
	set := p&Needs(op) != 0
	switch op {
	case api.OpBCC, api.OpBNE, api.OpBPL, api.OpBVC:
		return !set
	case api.OpBCS, api.OpBEQ, api.OpBMI, api.OpBVS:
		return set
	}
	return false
}
