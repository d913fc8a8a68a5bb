package isa

import "tandem/api"

// Modes and classes under short names, so that the table can be read as a table.
const (
	imp = api.ModeImp
	acc = api.ModeAcc
	imm = api.ModeImm
	zp  = api.ModeZp
	zpx = api.ModeZpx
	zpy = api.ModeZpy
	izx = api.ModeIzx
	izy = api.ModeIzy
	abs = api.ModeAbs
	abx = api.ModeAbx
	aby = api.ModeAby
	ind = api.ModeInd
	rel = api.ModeRel

	std = api.Documented
	und = api.Undocumented
	jam = api.Jamming
	odd = api.Filler
)

// row is what has to be told of an opcode: all else follows from it.
type row struct {
	op    api.Op
	mode  api.Mode
	class int
}

// table is the opcodes, in the order of their numbers. Read holds the opcode that a line names against it; what all other calls ask is worked out by rowOf, which says the same in far fewer rows.
var table = [256]row{
	0x00: {api.OpBRK, imp, std}, {api.OpORA, izx, std}, {api.OpJAM, imp, jam}, {api.OpSLO, izx, und},
	0x04: {api.OpNOP, zp, und}, {api.OpORA, zp, std}, {api.OpASL, zp, std}, {api.OpSLO, zp, und},
	0x08: {api.OpPHP, imp, std}, {api.OpORA, imm, std}, {api.OpASL, acc, std}, {api.OpANC, imm, und},
	0x0c: {api.OpNOP, abs, und}, {api.OpORA, abs, std}, {api.OpASL, abs, std}, {api.OpSLO, abs, und},
	0x10: {api.OpBPL, rel, std}, {api.OpORA, izy, std}, {api.OpJAM, imp, jam}, {api.OpSLO, izy, und},
	0x14: {api.OpNOP, zpx, und}, {api.OpORA, zpx, std}, {api.OpASL, zpx, std}, {api.OpSLO, zpx, und},
	0x18: {api.OpCLC, imp, std}, {api.OpORA, aby, std}, {api.OpNOP, imp, und}, {api.OpSLO, aby, und},
	0x1c: {api.OpNOP, abx, und}, {api.OpORA, abx, std}, {api.OpASL, abx, std}, {api.OpSLO, abx, und},
	0x20: {api.OpJSR, abs, std}, {api.OpAND, izx, std}, {api.OpJAM, imp, jam}, {api.OpRLA, izx, und},
	0x24: {api.OpBIT, zp, std}, {api.OpAND, zp, std}, {api.OpROL, zp, std}, {api.OpRLA, zp, und},
	0x28: {api.OpPLP, imp, std}, {api.OpAND, imm, std}, {api.OpROL, acc, std}, {api.OpANC, imm, und},
	0x2c: {api.OpBIT, abs, std}, {api.OpAND, abs, std}, {api.OpROL, abs, std}, {api.OpRLA, abs, und},
	0x30: {api.OpBMI, rel, std}, {api.OpAND, izy, std}, {api.OpJAM, imp, jam}, {api.OpRLA, izy, und},
	0x34: {api.OpNOP, zpx, und}, {api.OpAND, zpx, std}, {api.OpROL, zpx, std}, {api.OpRLA, zpx, und},
	0x38: {api.OpSEC, imp, std}, {api.OpAND, aby, std}, {api.OpNOP, imp, und}, {api.OpRLA, aby, und},
	0x3c: {api.OpNOP, abx, und}, {api.OpAND, abx, std}, {api.OpROL, abx, std}, {api.OpRLA, abx, und},
	0x40: {api.OpRTI, imp, std}, {api.OpEOR, izx, std}, {api.OpJAM, imp, jam}, {api.OpSRE, izx, und},
	0x44: {api.OpNOP, zp, und}, {api.OpEOR, zp, std}, {api.OpLSR, zp, std}, {api.OpSRE, zp, und},
	0x48: {api.OpPHA, imp, std}, {api.OpEOR, imm, std}, {api.OpLSR, acc, std}, {api.OpALR, imm, und},
	0x4c: {api.OpJMP, abs, std}, {api.OpEOR, abs, std}, {api.OpLSR, abs, std}, {api.OpSRE, abs, und},
	0x50: {api.OpBVC, rel, std}, {api.OpEOR, izy, std}, {api.OpJAM, imp, jam}, {api.OpSRE, izy, und},
	0x54: {api.OpNOP, zpx, und}, {api.OpEOR, zpx, std}, {api.OpLSR, zpx, std}, {api.OpSRE, zpx, und},
	0x58: {api.OpCLI, imp, std}, {api.OpEOR, aby, std}, {api.OpNOP, imp, und}, {api.OpSRE, aby, und},
	0x5c: {api.OpNOP, abx, und}, {api.OpEOR, abx, std}, {api.OpLSR, abx, std}, {api.OpSRE, abx, und},
	0x60: {api.OpRTS, imp, std}, {api.OpADC, izx, std}, {api.OpJAM, imp, jam}, {api.OpRRA, izx, und},
	0x64: {api.OpNOP, zp, und}, {api.OpADC, zp, std}, {api.OpROR, zp, std}, {api.OpRRA, zp, und},
	0x68: {api.OpPLA, imp, std}, {api.OpADC, imm, std}, {api.OpROR, acc, std}, {api.OpARR, imm, und},
	0x6c: {api.OpJMP, ind, std}, {api.OpADC, abs, std}, {api.OpROR, abs, std}, {api.OpRRA, abs, und},
	0x70: {api.OpBVS, rel, std}, {api.OpADC, izy, std}, {api.OpJAM, imp, jam}, {api.OpRRA, izy, und},
	0x74: {api.OpNOP, zpx, und}, {api.OpADC, zpx, std}, {api.OpROR, zpx, std}, {api.OpRRA, zpx, und},
	0x78: {api.OpSEI, imp, std}, {api.OpADC, aby, std}, {api.OpNOP, imp, und}, {api.OpRRA, aby, und},
	0x7c: {api.OpNOP, abx, und}, {api.OpADC, abx, std}, {api.OpROR, abx, std}, {api.OpRRA, abx, und},
	0x80: {api.OpNOP, imm, und}, {api.OpSTA, izx, std}, {api.OpNOP, imm, und}, {api.OpSAX, izx, und},
	0x84: {api.OpSTY, zp, std}, {api.OpSTA, zp, std}, {api.OpSTX, zp, std}, {api.OpSAX, zp, und},
	0x88: {api.OpDEY, imp, std}, {api.OpNOP, imm, und}, {api.OpTXA, imp, std}, {api.OpNOP, imm, odd},
	0x8c: {api.OpSTY, abs, std}, {api.OpSTA, abs, std}, {api.OpSTX, abs, std}, {api.OpSAX, abs, und},
	0x90: {api.OpBCC, rel, std}, {api.OpSTA, izy, std}, {api.OpJAM, imp, jam}, {api.OpNOP, izy, odd},
	0x94: {api.OpSTY, zpx, std}, {api.OpSTA, zpx, std}, {api.OpSTX, zpy, std}, {api.OpSAX, zpy, und},
	0x98: {api.OpTYA, imp, std}, {api.OpSTA, aby, std}, {api.OpTXS, imp, std}, {api.OpNOP, aby, odd},
	0x9c: {api.OpNOP, abx, odd}, {api.OpSTA, abx, std}, {api.OpNOP, aby, odd}, {api.OpNOP, aby, odd},
	0xa0: {api.OpLDY, imm, std}, {api.OpLDA, izx, std}, {api.OpLDX, imm, std}, {api.OpLAX, izx, und},
	0xa4: {api.OpLDY, zp, std}, {api.OpLDA, zp, std}, {api.OpLDX, zp, std}, {api.OpLAX, zp, und},
	0xa8: {api.OpTAY, imp, std}, {api.OpLDA, imm, std}, {api.OpTAX, imp, std}, {api.OpNOP, imm, odd},
	0xac: {api.OpLDY, abs, std}, {api.OpLDA, abs, std}, {api.OpLDX, abs, std}, {api.OpLAX, abs, und},
	0xb0: {api.OpBCS, rel, std}, {api.OpLDA, izy, std}, {api.OpJAM, imp, jam}, {api.OpLAX, izy, und},
	0xb4: {api.OpLDY, zpx, std}, {api.OpLDA, zpx, std}, {api.OpLDX, zpy, std}, {api.OpLAX, zpy, und},
	0xb8: {api.OpCLV, imp, std}, {api.OpLDA, aby, std}, {api.OpTSX, imp, std}, {api.OpLAS, aby, und},
	0xbc: {api.OpLDY, abx, std}, {api.OpLDA, abx, std}, {api.OpLDX, aby, std}, {api.OpLAX, aby, und},
	0xc0: {api.OpCPY, imm, std}, {api.OpCMP, izx, std}, {api.OpNOP, imm, und}, {api.OpDCP, izx, und},
	0xc4: {api.OpCPY, zp, std}, {api.OpCMP, zp, std}, {api.OpDEC, zp, std}, {api.OpDCP, zp, und},
	0xc8: {api.OpINY, imp, std}, {api.OpCMP, imm, std}, {api.OpDEX, imp, std}, {api.OpSBX, imm, und},
	0xcc: {api.OpCPY, abs, std}, {api.OpCMP, abs, std}, {api.OpDEC, abs, std}, {api.OpDCP, abs, und},
	0xd0: {api.OpBNE, rel, std}, {api.OpCMP, izy, std}, {api.OpJAM, imp, jam}, {api.OpDCP, izy, und},
	0xd4: {api.OpNOP, zpx, und}, {api.OpCMP, zpx, std}, {api.OpDEC, zpx, std}, {api.OpDCP, zpx, und},
	0xd8: {api.OpCLD, imp, std}, {api.OpCMP, aby, std}, {api.OpNOP, imp, und}, {api.OpDCP, aby, und},
	0xdc: {api.OpNOP, abx, und}, {api.OpCMP, abx, std}, {api.OpDEC, abx, std}, {api.OpDCP, abx, und},
	0xe0: {api.OpCPX, imm, std}, {api.OpSBC, izx, std}, {api.OpNOP, imm, und}, {api.OpISC, izx, und},
	0xe4: {api.OpCPX, zp, std}, {api.OpSBC, zp, std}, {api.OpINC, zp, std}, {api.OpISC, zp, und},
	0xe8: {api.OpINX, imp, std}, {api.OpSBC, imm, std}, {api.OpNOP, imp, std}, {api.OpSBC, imm, und},
	0xec: {api.OpCPX, abs, std}, {api.OpSBC, abs, std}, {api.OpINC, abs, std}, {api.OpISC, abs, und},
	0xf0: {api.OpBEQ, rel, std}, {api.OpSBC, izy, std}, {api.OpJAM, imp, jam}, {api.OpISC, izy, und},
	0xf4: {api.OpNOP, zpx, und}, {api.OpSBC, zpx, std}, {api.OpINC, zpx, std}, {api.OpISC, zpx, und},
	0xf8: {api.OpSED, imp, std}, {api.OpSBC, aby, std}, {api.OpNOP, imp, und}, {api.OpISC, aby, und},
	0xfc: {api.OpNOP, abx, und}, {api.OpSBC, abx, std}, {api.OpINC, abx, std}, {api.OpISC, abx, und},
}
