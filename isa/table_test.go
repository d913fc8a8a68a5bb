package isa_test

import (
	"testing"

	"tandem/alu"
	"tandem/api"
	"tandem/isa"
)

// knownCycles is the least cycles of each opcode, as they are known of this processor; JAM has one here, and the fillers what their accesses come to.
const knownCycles = "" +
	"7618335532224466" + "2518446624274477" +
	"6618335542224466" + "2518446624274477" +
	"6618335532223466" + "2518446624274477" +
	"6618335542225466" + "2518446624274477" +
	"2626333322224444" + "2616444425255555" +
	"2626333322224444" + "2515444424244444" +
	"2628335522224466" + "2518446624274477" +
	"2628335522224466" + "2518446624274477"

func TestDecodeIsTheTable(t *testing.T) {
	for i := range 256 {
		code := uint8(i)
		want := api.Inst{Op: opOf(cells[code].name), Mode: cells[code].mode, Kind: toldKind(code), Len: toldLen(code),
			Cycles: int(knownCycles[code] - '0'), Class: toldClass(code)}
		if got := isa.Decode(code); got != want {
			t.Errorf("P4.1: Decode(%02x) = %+v, want %+v", code, got, want)
		}
	}
}

func TestDecodeByHand(t *testing.T) {
	for code, want := range map[uint8]api.Inst{
		0x00: {Op: api.OpBRK, Mode: api.ModeImp, Kind: api.KindBreak, Len: 1, Cycles: 7, Class: api.Documented},
		0x08: {Op: api.OpPHP, Mode: api.ModeImp, Kind: api.KindPush, Len: 1, Cycles: 3, Class: api.Documented},
		0x0a: {Op: api.OpASL, Mode: api.ModeAcc, Kind: api.KindPlain, Len: 1, Cycles: 2, Class: api.Documented},
		0x0e: {Op: api.OpASL, Mode: api.ModeAbs, Kind: api.KindRmw, Len: 3, Cycles: 6, Class: api.Documented},
		0x10: {Op: api.OpBPL, Mode: api.ModeRel, Kind: api.KindBranch, Len: 2, Cycles: 2, Class: api.Documented},
		0x1c: {Op: api.OpNOP, Mode: api.ModeAbx, Kind: api.KindRead, Len: 3, Cycles: 4, Class: api.Undocumented},
		0x20: {Op: api.OpJSR, Mode: api.ModeAbs, Kind: api.KindCall, Len: 3, Cycles: 6, Class: api.Documented},
		0x24: {Op: api.OpBIT, Mode: api.ModeZp, Kind: api.KindRead, Len: 2, Cycles: 3, Class: api.Documented},
		0x33: {Op: api.OpRLA, Mode: api.ModeIzy, Kind: api.KindRmw, Len: 2, Cycles: 8, Class: api.Undocumented},
		0x4c: {Op: api.OpJMP, Mode: api.ModeAbs, Kind: api.KindJump, Len: 3, Cycles: 3, Class: api.Documented},
		0x60: {Op: api.OpRTS, Mode: api.ModeImp, Kind: api.KindReturn, Len: 1, Cycles: 6, Class: api.Documented},
		0x68: {Op: api.OpPLA, Mode: api.ModeImp, Kind: api.KindPull, Len: 1, Cycles: 4, Class: api.Documented},
		0x6b: {Op: api.OpARR, Mode: api.ModeImm, Kind: api.KindPlain, Len: 2, Cycles: 2, Class: api.Undocumented},
		0x6c: {Op: api.OpJMP, Mode: api.ModeInd, Kind: api.KindJump, Len: 3, Cycles: 5, Class: api.Documented},
		0x80: {Op: api.OpNOP, Mode: api.ModeImm, Kind: api.KindPlain, Len: 2, Cycles: 2, Class: api.Undocumented},
		0x83: {Op: api.OpSAX, Mode: api.ModeIzx, Kind: api.KindWrite, Len: 2, Cycles: 6, Class: api.Undocumented},
		0x8b: {Op: api.OpNOP, Mode: api.ModeImm, Kind: api.KindPlain, Len: 2, Cycles: 2, Class: api.Filler},
		0x96: {Op: api.OpSTX, Mode: api.ModeZpy, Kind: api.KindWrite, Len: 2, Cycles: 4, Class: api.Documented},
		0x9c: {Op: api.OpNOP, Mode: api.ModeAbx, Kind: api.KindFixed, Len: 3, Cycles: 5, Class: api.Filler},
		0xbb: {Op: api.OpLAS, Mode: api.ModeAby, Kind: api.KindRead, Len: 3, Cycles: 4, Class: api.Undocumented},
		0xbe: {Op: api.OpLDX, Mode: api.ModeAby, Kind: api.KindRead, Len: 3, Cycles: 4, Class: api.Documented},
		0xd2: {Op: api.OpJAM, Mode: api.ModeImp, Kind: api.KindJam, Len: 1, Cycles: 1, Class: api.Jamming},
		0xe9: {Op: api.OpSBC, Mode: api.ModeImm, Kind: api.KindPlain, Len: 2, Cycles: 2, Class: api.Documented},
		0xea: {Op: api.OpNOP, Mode: api.ModeImp, Kind: api.KindPlain, Len: 1, Cycles: 2, Class: api.Documented},
		0xeb: {Op: api.OpSBC, Mode: api.ModeImm, Kind: api.KindPlain, Len: 2, Cycles: 2, Class: api.Undocumented},
		0xfa: {Op: api.OpNOP, Mode: api.ModeImp, Kind: api.KindPlain, Len: 1, Cycles: 2, Class: api.Undocumented},
	} {
		if got := isa.Decode(code); got != want {
			t.Errorf("P4.1: Decode(%02x) = %+v, want %+v", code, got, want)
		}
	}
}

func TestClassesAreAsManyAsTold(t *testing.T) {
	n := map[int]int{}
	nops := map[int]int{}
	for i := range 256 {
		in := isa.Decode(uint8(i))
		n[in.Class]++
		if in.Op == api.OpNOP {
			nops[in.Class]++
		}
		if in.Class == api.Documented && in.Op > api.OpTYA {
			t.Errorf("P4.1: %02x is documented, but its name is not", i)
		}
	}
	if len(n) != 4 || n[api.Documented] != 151 || n[api.Undocumented] != 86 || n[api.Jamming] != 12 || n[api.Filler] != 7 {
		t.Errorf("P4.1: opcodes by class: %v", n)
	}
	if len(nops) != 3 || nops[api.Documented] != 1 || nops[api.Undocumented] != 27 || nops[api.Filler] != 7 {
		t.Errorf("P4.1: NOPs by class: %v", nops)
	}
}

func TestFlagsAreTheOperations(t *testing.T) {
	for i := range 256 {
		op := opOf(cells[i].name)
		if needs, sets := isa.Flags(uint8(i)); needs != alu.Needs(op) || sets != alu.Sets(op) {
			t.Errorf("P4.1: Flags(%02x) = %02x, %02x", i, needs, sets)
		}
	}
	for code, want := range map[uint8][2]uint8{
		0xa9: {0, api.FlagN | api.FlagZ}, 0x6d: {api.FlagC | api.FlagD, api.FlagN | api.FlagV | api.FlagZ | api.FlagC}, 0xb0: {api.FlagC, 0},
		0x78: {0, api.FlagI}, 0x2a: {api.FlagC, api.FlagN | api.FlagZ | api.FlagC}, 0xea: {0, 0}, 0x9b: {0, 0}, 0x02: {0, 0}, 0x85: {0, 0},
	} {
		if needs, sets := isa.Flags(code); needs != want[0] || sets != want[1] {
			t.Errorf("P4.1: Flags(%02x) = %02x, %02x, want %02x, %02x", code, needs, sets, want[0], want[1])
		}
	}
}

func TestNames(t *testing.T) {
	if len(names) != api.OpCount {
		t.Fatalf("%d names", len(names))
	}
	for n, want := range names {
		if got := isa.Name(api.Op(n)); got != want {
			t.Errorf("P4.2: Name(%d) = %q, want %q", n, got, want)
		}
	}
	for op, want := range map[api.Op]string{api.OpADC: "ADC", api.OpBVS: "BVS", api.OpJSR: "JSR", api.OpNOP: "NOP", api.OpSTY: "STY", api.OpTYA: "TYA", api.OpALR: "ALR", api.OpLAX: "LAX", api.OpSRE: "SRE", api.OpJAM: "JAM"} {
		if got := isa.Name(op); got != want {
			t.Errorf("P4.2: Name(%d) = %q, want %q", op, got, want)
		}
	}
	for _, op := range noOps {
		if got := isa.Name(op); got != "" {
			t.Errorf("P4.2: Name(%d) = %q, want none", op, got)
		}
	}
}

func TestEncode(t *testing.T) {
	for _, op := range everyOp() {
		for _, mode := range everyMode() {
			want, e := toldEncode(op, mode)
			if got, f := isa.Encode(op, mode); got != want || f != e {
				t.Errorf("P4.4: Encode(%d, %d) = %02x, %d, want %02x, %d", op, mode, got, f, want, e)
			}
		}
	}
}

func TestEncodeByHand(t *testing.T) {
	for _, c := range []struct {
		op   api.Op
		mode api.Mode
		want uint8
		e    api.Errno
	}{
		{api.OpBRK, api.ModeImp, 0x00, api.OK}, {api.OpLDA, api.ModeIzy, 0xb1, api.OK}, {api.OpJMP, api.ModeInd, 0x6c, api.OK}, {api.OpBNE, api.ModeRel, 0xd0, api.OK},
		{api.OpNOP, api.ModeImp, 0xea, api.OK}, {api.OpNOP, api.ModeImm, 0x80, api.OK}, {api.OpNOP, api.ModeZp, 0x04, api.OK}, {api.OpNOP, api.ModeZpx, 0x14, api.OK},
		{api.OpNOP, api.ModeAbs, 0x0c, api.OK}, {api.OpNOP, api.ModeAbx, 0x1c, api.OK}, {api.OpSBC, api.ModeImm, 0xe9, api.OK}, {api.OpANC, api.ModeImm, 0x0b, api.OK},
		{api.OpJAM, api.ModeImp, 0x02, api.OK}, {api.OpLAS, api.ModeAby, 0xbb, api.OK}, {api.OpSAX, api.ModeZpy, 0x97, api.OK},
		{api.OpNOP, api.ModeAby, 0, api.ErrMode}, {api.OpNOP, api.ModeIzy, 0, api.ErrMode}, {api.OpNOP, api.ModeAcc, 0, api.ErrMode}, {api.OpASL, api.ModeImp, 0, api.ErrMode},
		{api.OpSTA, api.ModeImm, 0, api.ErrMode}, {api.OpJSR, api.ModeInd, 0, api.ErrMode}, {api.OpBNE, api.ModeAbs, 0, api.ErrMode}, {api.OpLDA, -1, 0, api.ErrMode}, {api.OpLDA, 13, 0, api.ErrMode},
		{-1, api.ModeImp, 0, api.ErrName}, {api.OpCount, api.ModeImp, 0, api.ErrName}, {-1, -1, 0, api.ErrName}, {99, 99, 0, api.ErrName},
	} {
		if got, e := isa.Encode(c.op, c.mode); got != c.want || e != c.e {
			t.Errorf("P4.4: Encode(%d, %d) = %02x, %d, want %02x, %d", c.op, c.mode, got, e, c.want, c.e)
		}
	}
}

func TestEncodeOfDecode(t *testing.T) {
	for i := range 256 {
		in := isa.Decode(uint8(i))
		code, e := isa.Encode(in.Op, in.Mode)
		switch in.Class {
		case api.Documented:
			if code != uint8(i) || e != api.OK {
				t.Errorf("P4.4: of %02x, which is documented, Encode gives %02x, %d", i, code, e)
			}
		case api.Filler:
			if e == api.OK && code == uint8(i) {
				t.Errorf("P4.4: Encode gives the filler %02x", i)
			}
		default:
			if e != api.OK || code > uint8(i) && isa.Decode(code).Class != api.Documented {
				t.Errorf("P4.4: of %02x Encode gives %02x, %d: not the lowest", i, code, e)
			}
		}
	}
}
