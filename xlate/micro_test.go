package xlate_test

import (
	"fmt"
	"slices"
	"strings"
	"testing"

	"tandem/api"
	"tandem/isa"
	"tandem/xlate"
)

// rows is the chapter's table, by the lines that Text has of an instruction at $8000, its first line left out.
var rows = []struct {
	line string
	want string
}{
	{"NOP", "alu NOP"}, {"INX", "alu INX NZ"}, {"CLC", "alu CLC C"}, {"SED", "alu SED D"}, {"CLV", "alu CLV V"}, {"TXS", "alu TXS"}, {"NOP.1A", "alu NOP"},
	{"ASL A", "alu ASL NZC"}, {"ROR A", "alu ROR NZC"},
	{"LDA #$12", "const LDA $0012, alu LDA NZ"}, {"NOP.80 #$FE", "const NOP $00FE, alu NOP"}, {"NOP.8B #$12", "const NOP $0012, alu NOP"}, {"SBC.EB #$12", "const SBC $0012, alu SBC NVZC"},
	{"LDA $12", "addr LDA $0012, load LDA, alu LDA NZ"}, {"LDX $12,Y", "addr LDX $0012, load LDX, alu LDX NZ"}, {"BIT $1234", "addr BIT $1234, load BIT, alu BIT NVZ"},
	{"NOP.0C $1234", "addr NOP $1234, load NOP, alu NOP"}, {"ADC ($FF,X)", "addr ADC $00FF, load ADC, alu ADC NVZC"}, {"CMP ($12),Y", "addr CMP $0012, load CMP, alu CMP NZC"},
	{"LAS $FEDC,Y", "addr LAS $FEDC, load LAS, alu LAS NZ"},
	{"NOP.9C $1234,X", "addr NOP $1234, load NOP"}, {"NOP.93 ($12),Y", "addr NOP $0012, load NOP"}, {"NOP.9F $1234,Y", "addr NOP $1234, load NOP"},
	{"STA $1234", "addr STA $1234, alu STA, store STA"}, {"SAX $12,Y", "addr SAX $0012, alu SAX, store SAX"}, {"STY $12,X", "addr STY $0012, alu STY, store STY"},
	{"INC $1234,X", "addr INC $1234, load INC, alu INC NZ, store INC"}, {"ASL $12", "addr ASL $0012, load ASL, alu ASL NZC, store ASL"}, {"RRA ($12),Y", "addr RRA $0012, load RRA, alu RRA NVZC, store RRA"},
	{"BNE $8002", "branch BNE $8002"}, {"BCC $7F82", "branch BCC $7F82"}, {"BVS $8081", "branch BVS $8081"},
	{"JMP $1234", "jump JMP $1234"}, {"JMP ($12FF)", "via JMP $12FF"}, {"JSR $FEDC", "call JSR $FEDC"}, {"RTS", "return RTS"},
	{"PHA", "alu PHA, push PHA"}, {"PHP", "alu PHP, push PHP"}, {"PLA", "pull PLA, alu PLA NZ"},
}

// Each row, alone and as a block's second instruction, of which Inst and Cycle tell.
func TestRows(t *testing.T) {
	for _, x := range rows {
		code := codes(t, 0x8000, x.line)
		for ahead, front := range []string{"0 +0 ", "1 +3 "} {
			if ahead == 1 && isa.Decode(code[0]).Kind == api.KindBranch {
				continue // its target would be another one
			}
			whole := append(append([]uint8{0xa5, 0x10}[:2*ahead], code...), 0)
			l := lines(xlate.Text(made(t, 0x8000, 0, 1+ahead, whole...)))[1+3*ahead:]
			want := strings.Split(x.want, ", ")
			for i := range want {
				want[i] = front + want[i]
			}
			if !slices.Equal(l, want) {
				t.Errorf("P13.3: %s: %q, want %q", x.line, l, want)
			}
		}
	}
}

// Every opcode: the fields of its micro-ops, one by one, with another instruction ahead of it and without.
func TestEveryMicro(t *testing.T) {
	for code := range 256 {
		i := isa.Decode(uint8(code))
		if slices.Contains(neverIn, i.Op) {
			continue
		}
		for ahead := range 2 {
			whole := append([]uint8{0xa5, 0x10}[:2*ahead], uint8(code), 0x9a, 0x7b, 0, 0)
			name := fmt.Sprintf("%02X behind %d others", code, ahead)
			b := made(t, 0x9000, 0, 1+ahead, whole...)
			sameBlock(t, name, b, toldBlock(0x9000, 0, whole, 1+ahead))
			for _, o := range b.Ops[3*ahead:] {
				if o.Op != i.Op || o.Mode != i.Mode || o.Inst != ahead || o.Cycle != 3*ahead || o.Kind != api.MicroAlu && o.Flags != 0 {
					t.Errorf("P13.3: %s: %+v", name, o)
				}
				arg := uint16(0)
				switch o.Kind {
				case api.MicroAddr, api.MicroConst, api.MicroJump, api.MicroVia, api.MicroCall:
					arg = []uint16{0, 0x009a, 0x7b9a}[i.Len-1]
				case api.MicroBranch:
					arg = 0x9000 + 2*uint16(ahead) + 2 - 0x66
				}
				if o.Arg != arg {
					t.Errorf("P13.3: %s: Arg of %+v, want $%04X", name, o, arg)
				}
			}
		}
	}
}

// Inst and Cycle go up along a block, penalties left out.
func TestNumbersOfMicros(t *testing.T) {
	b := made(t, 0x8000, 0, 64, append(codes(t, 0x8000, "LDA $1234,X; INC $12; PHA; PLA; TAX; LDA #$05; JSR $9000"), 0)...)
	var got []string
	for _, o := range b.Ops {
		got = append(got, fmt.Sprintf("%d+%d", o.Inst, o.Cycle))
	}
	want := strings.Fields("0+0 0+0 0+0 1+4 1+4 1+4 1+4 2+9 2+9 3+12 3+12 4+16 5+18 5+18 6+20")
	if !slices.Equal(got, want) || b.Insts != 7 || b.Least != 26 || b.Most != 27 {
		t.Errorf("P13.3: %v, want %v", got, want)
	}
}

// A branch's target goes round at both ends of the addresses.
func TestTargetsGoRound(t *testing.T) {
	for _, c := range []struct {
		pc     uint16
		tag    int
		by     uint8
		target uint16
	}{{0x0000, api.TagRam, 0xfd, 0xffff}, {0x0000, api.TagRam, 0x80, 0xff82}, {0x0010, api.TagRam, 0xee, 0x0000}, {0xff90, 0, 0x6e, 0x0000}, {0xfff0, 0, 0x7f, 0x0071}, {0xff90, 0, 0x6d, 0xffff}} {
		for _, code := range []uint8{0x10, 0x30, 0x50, 0x70, 0x90, 0xb0, 0xd0, 0xf0} {
			b := made(t, c.pc, c.tag, 1, code, c.by, 0)
			if len(b.Ops) != 1 || b.Ops[0].Kind != api.MicroBranch || b.Ops[0].Arg != c.target {
				t.Errorf("P13.3: %02X %02X at $%04X: %+v, want $%04X", code, c.by, c.pc, b.Ops, c.target)
			}
		}
	}
}
