package isa

import "tandem/api"

// rowOf is an opcode's row, worked out: the low five bits of an opcode are its column, which has one mode but for a few opcodes, and the upper three choose the operation.
func rowOf(code uint8) row {
	op := opOf(code)
	return row{op, modeOf(code), classOf(code, op)}
}

// modeOf is an opcode's mode.
func modeOf(code uint8) api.Mode {
	switch code {
	case 0x20:
		return abs
	case 0x6c:
		return ind
	case 0x96, 0x97, 0xb6, 0xb7: // X is the operand there, or a part of it
		return zpy
	case 0x9e, 0x9f, 0xbe, 0xbf:
		return aby
	}
	switch code & 0x1f {
	case 0x01, 0x03:
		return izx
	case 0x04, 0x05, 0x06, 0x07:
		return zp
	case 0x09, 0x0b:
		return imm
	case 0x0c, 0x0d, 0x0e, 0x0f:
		return abs
	case 0x10:
		return rel
	case 0x11, 0x13:
		return izy
	case 0x14, 0x15, 0x16, 0x17:
		return zpx
	case 0x19, 0x1b:
		return aby
	case 0x1c, 0x1d, 0x1e, 0x1f:
		return abx
	}
	return halfMode(code)
}

// halfMode is the mode in the columns that have no operand, or have one in one half of the opcodes alone.
func halfMode(code uint8) api.Mode {
	low := code < 0x80
	switch code & 0x1f {
	case 0x00, 0x02:
		if !low {
			return imm
		}
	case 0x0a:
		if low {
			return acc
		}
	}
	return imp
}

// opOf is an opcode's operation. The low two bits tell what it is among: the flow and the rest of the old set, the accumulator's, the shifts, and what does the work of the two last at once.
func opOf(code uint8) api.Op {
	high := code >> 5
	switch code & 3 {
	case 0:
		return flowOp(code)
	case 1:
		if code == 0x89 { // an immediate operand cannot be stored in
			return api.OpNOP
		}
		return [8]api.Op{api.OpORA, api.OpAND, api.OpEOR, api.OpADC, api.OpSTA, api.OpLDA, api.OpCMP, api.OpSBC}[high]
	case 2:
		return shiftOp(code)
	}
	switch code {
	case 0x93, 0x9b, 0x9f:
		return api.OpNOP
	case 0xbb:
		return api.OpLAS
	}
	if code&0x1f == 0x0b {
		return [8]api.Op{api.OpANC, api.OpANC, api.OpALR, api.OpARR, api.OpNOP, api.OpNOP, api.OpSBX, api.OpSBC}[high]
	}
	return [8]api.Op{api.OpSLO, api.OpRLA, api.OpSRE, api.OpRRA, api.OpSAX, api.OpLAX, api.OpDCP, api.OpISC}[high]
}

// flowOp is the operation of an opcode that is a multiple of four.
func flowOp(code uint8) api.Op {
	high := code >> 5
	switch code & 0x1f {
	case 0x00:
		return [8]api.Op{api.OpBRK, api.OpJSR, api.OpRTI, api.OpRTS, api.OpNOP, api.OpLDY, api.OpCPY, api.OpCPX}[high]
	case 0x04:
		return [8]api.Op{api.OpNOP, api.OpBIT, api.OpNOP, api.OpNOP, api.OpSTY, api.OpLDY, api.OpCPY, api.OpCPX}[high]
	case 0x08:
		return [8]api.Op{api.OpPHP, api.OpPLP, api.OpPHA, api.OpPLA, api.OpDEY, api.OpTAY, api.OpINY, api.OpINX}[high]
	case 0x0c:
		return [8]api.Op{api.OpNOP, api.OpBIT, api.OpJMP, api.OpJMP, api.OpSTY, api.OpLDY, api.OpCPY, api.OpCPX}[high]
	case 0x10:
		return [8]api.Op{api.OpBPL, api.OpBMI, api.OpBVC, api.OpBVS, api.OpBCC, api.OpBCS, api.OpBNE, api.OpBEQ}[high]
	case 0x18:
		return [8]api.Op{api.OpCLC, api.OpSEC, api.OpCLI, api.OpSEI, api.OpTYA, api.OpCLV, api.OpCLD, api.OpSED}[high]
	}
	switch code {
	case 0x94:
		return api.OpSTY
	case 0xb4, 0xbc:
		return api.OpLDY
	}
	return api.OpNOP
}

// shiftOp is the operation of an opcode that is two more than a multiple of four.
func shiftOp(code uint8) api.Op {
	high := code >> 5
	switch code & 0x1f {
	case 0x02:
		return [8]api.Op{api.OpJAM, api.OpJAM, api.OpJAM, api.OpJAM, api.OpNOP, api.OpLDX, api.OpNOP, api.OpNOP}[high]
	case 0x0a:
		return [8]api.Op{api.OpASL, api.OpROL, api.OpLSR, api.OpROR, api.OpTXA, api.OpTAX, api.OpDEX, api.OpNOP}[high]
	case 0x12:
		return api.OpJAM
	case 0x1a:
		return [8]api.Op{api.OpNOP, api.OpNOP, api.OpNOP, api.OpNOP, api.OpTXS, api.OpTSX, api.OpNOP, api.OpNOP}[high]
	}
	if code == 0x9e {
		return api.OpNOP
	}
	return [8]api.Op{api.OpASL, api.OpROL, api.OpLSR, api.OpROR, api.OpSTX, api.OpLDX, api.OpDEC, api.OpINC}[high]
}

// classOf is an opcode's class. The names of the documented operations come first among their numbers.
func classOf(code uint8, op api.Op) int {
	switch code {
	case 0x8b, 0x93, 0x9b, 0x9c, 0x9e, 0x9f, 0xab:
		return odd
	case 0xeb:
		return und
	}
	switch {
	case op == api.OpJAM:
		return jam
	case op > api.OpTYA, op == api.OpNOP && code != 0xea:
		return und
	}
	return std
}
