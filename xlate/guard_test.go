package xlate_test

import (
	"slices"
	"strings"
	"testing"

	"tandem/api"
	"tandem/xlate"
)

// Instructions ahead of which a block is left, with LDX #$20 ahead of them, and those like them that are done. Pages 60 to 7F are plain, and reads of 80 to FF.
func TestLeftAhead(t *testing.T) {
	pointers := bytes{0x10: 0xf0, 0x11: 0x1f, 0x12: 0xf0, 0x13: 0x5f, 0x14: 0xf0, 0x15: 0x7f, 0x16: 0x00, 0x17: 0x20, 0x18: 0x00, 0x19: 0x60, 0x1a: 0xe0, 0x1b: 0x1f, 0x1c: 0xf0, 0x1d: 0xff}
	for _, c := range []struct {
		line string
		left bool
	}{
		{"LDA $1FFF", false}, {"LDA $2000", true}, {"LDA $4016", true}, {"LDA $5FFF", true}, {"LDA $6000", false}, {"LDA $7FFF", false}, {"LDA $8000", false}, {"LDA $FFFF", false},
		{"STA $1FFF", false}, {"STA $2000", true}, {"STA $5FFF", true}, {"STA $6000", false}, {"STA $8000", true}, {"STA $FFFF", true},
		{"INC $1FFF", false}, {"INC $2000", true}, {"INC $7FFF", false}, {"INC $8000", true},
		{"NOP.0C $2000", true}, {"NOP.0C $1FFF", false}, {"BIT $2002", true},
		// The index is $20 in X and in Y. The operand's address is plain or not.
		{"LDA $1FDF,X", false}, {"LDA $1FE0,X", true}, {"LDA $5FDF,X", true}, {"STA $1FDF,X", false}, {"STA $1FE0,X", true}, {"STA $7FE0,X", true}, {"LDA $7FE0,X", false}, {"DCP $7FDF,Y", false},
		// The wrong address is read: always, or where it is crossed.
		{"LDA $5FE0,X", true}, {"LDA $5FF0,Y", true}, {"STA $5FF0,X", true}, {"LDA $FFF0,X", false}, {"STA $FFF0,X", false}, {"INC $FFF0,X", false}, {"LDA $FFE0,Y", false},
		{"LDA $6000,X", false}, {"STA $6000,X", false}, {"NOP.9C $1FDF,X", false}, {"NOP.9C $1FE0,X", true}, {"NOP.9C $5FF0,X", true}, {"NOP.9B $5FF0,Y", true}, {"NOP.9C $7FF0,X", false}, {"NOP.1C $5FF0,X", true},
		{"LDA ($10),Y", true}, {"LDA ($12),Y", true}, {"LDA ($14),Y", false}, {"STA ($14),Y", true}, {"STA ($12),Y", true}, {"LDA ($18),Y", false}, {"STA ($18),Y", false}, {"LDA ($1C),Y", false}, {"STA ($1C),Y", false},
		{"SLO ($12),Y", true}, {"SLO ($14),Y", true}, {"SLO ($18),Y", false}, {"NOP.93 ($12),Y", true}, {"NOP.93 ($14),Y", false}, {"LDA ($16),Y", true}, {"LDA ($1A),Y", true},
		{"LDA ($F6,X)", true}, {"LDA ($F8,X)", false}, {"STA ($F6,X)", true}, {"STA ($F8,X)", false}, {"SLO ($F6,X)", true}, {"SLO ($F8,X)", false}, {"STA ($F4,X)", false}, {"LDA ($F2,X)", true},
		{"JMP ($1FFE)", false}, {"JMP ($1FFF)", false}, {"JMP ($2000)", true}, {"JMP ($5FFE)", true}, {"JMP ($5FFF)", true}, {"JMP ($6000)", false}, {"JMP ($FFFF)", false},
		{"LDA $F0,X", false}, {"STA $F0,X", false}, {"INC $F0", false}, {"PHA", false}, {"PLA", false}, {"JSR $2000", false}, {"JMP $2000", false}, {"BNE $7FF0", false},
	} {
		l := console()
		code := codes(t, 0x8000, "LDX #$20; "+c.line)
		l.put(0x8000, append(code, 0xea)...)
		for addr, v := range pointers {
			l.put(addr, v)
		}
		b := blockAt(t, l, 0x8000, 2)
		o := xlate.Run(b, api.Regs{A: 7, Y: 0x20, S: 0xfd, P: 0x20}, 0x77, l)
		if !c.left {
			if o.Left != api.LeftEnd || o.Insts != 2 {
				t.Errorf("P13.5: %s: %s, want it to be done", c.line, short(o))
			}
			continue
		}
		outcome(t, "P13.5: "+c.line, o, guard(api.Regs{A: 7, X: 0x20, Y: 0x20, S: 0xfd, P: 0x20, PC: 0x8002}, 0x20, 2, 1))
		if len(l.stores) != 0 {
			t.Errorf("P13.5: %s, left ahead, has stored: %+v", c.line, l.stores)
		}
	}
}

// An instruction that reads and does not cross makes no read of a wrong address, which here is the same one: only Plain of the address itself is asked.
func TestWhatIsAsked(t *testing.T) {
	r := api.Regs{X: 0x20, Y: 0x20, S: 0xfd, P: 0x20}
	for _, c := range []struct {
		line string
		want []touch
	}{
		{"LDA $6000", []touch{{addr: 0x6000}}}, {"STA $6000", []touch{{addr: 0x6000, write: true}}}, {"INC $6000", []touch{{addr: 0x6000}, {addr: 0x6000, write: true}}},
		{"LDA $6000,X", []touch{{addr: 0x6020}}}, {"LDA $60F0,X", []touch{{addr: 0x6010}, {addr: 0x6110}}}, {"STA $60F0,X", []touch{{addr: 0x6010}, {addr: 0x6110, write: true}}},
		{"STA $6000,X", []touch{{addr: 0x6020}, {addr: 0x6020, write: true}}}, {"NOP.9C $60F0,X", []touch{{addr: 0x6010}, {addr: 0x6110}}},
		{"LDA $10", nil}, {"LDA $1FFF", nil}, {"STA $F0,X", nil}, {"LDA $0300,X", nil}, {"STA $03F0,Y", nil}, {"INX", nil}, {"LDA #$12", nil}, {"PHA", nil}, {"PLA", nil}, {"JMP $6000", nil}, {"JSR $6000", nil},
		{"BNE $7FF0", nil}, {"BNE $8010", nil}, {"JMP ($60FF)", []touch{{addr: 0x60ff}, {addr: 0x6000}}}, {"RTS", []touch{{addr: 0x6543}}},
	} {
		l := console()
		l.put(0x8000, append(codes(t, 0x8000, c.line), 0xea)...)
		l.put(0x01fe, 0x43, 0x65)
		xlate.Run(blockAt(t, l, 0x8000, 1), r, 0, l)
		for _, a := range l.asked {
			if !slices.Contains(c.want, a) {
				t.Errorf("P13.5: %s: Plain is asked for %+v, want no more than %+v", c.line, a, c.want)
			}
		}
		for _, a := range c.want {
			if !slices.Contains(l.asked, a) && a.addr != 0x6020 { // the wrong address may be the right one
				t.Errorf("P13.5: %s: Plain is asked for %+v, want %+v", c.line, l.asked, c.want)
			}
		}
	}
}

// A write that is plain where a read is not, and the other way round: each kind asks for what it does.
func TestReadsAndWritesApart(t *testing.T) {
	for _, c := range []struct {
		line        string
		read, write bool // of page 60
		left        bool
	}{
		{"LDA $6000", true, false, false}, {"LDA $6000", false, true, true}, {"STA $6000", false, true, false}, {"STA $6000", true, false, true},
		{"INC $6000", true, false, true}, {"INC $6000", false, true, true}, {"INC $6000", true, true, false}, {"NOP.0C $6000", true, false, false}, {"NOP.0C $6000", false, true, true},
		{"STA $6000,X", false, true, true}, {"STA $6000,X", true, true, false}, {"STA ($10),Y", false, true, true}, {"STA ($10,X)", false, true, false}, {"NOP.9C $6000,X", true, false, false}, {"NOP.9C $6000,X", false, true, true},
		{"LDA ($10),Y", true, false, false}, {"LDA ($10,X)", false, true, true}, {"SLO ($10,X)", true, false, true}, {"SLO ($10,X)", false, true, true}, {"SLO ($10),Y", true, true, false},
		{"JMP ($6000)", true, false, false}, {"JMP ($6000)", false, true, true}, {"RTS", true, false, false}, {"RTS", false, true, true},
	} {
		l := console()
		l.reads[0x60], l.writes[0x60] = c.read, c.write
		l.put(0x8000, append(codes(t, 0x8000, c.line), 0xea)...)
		l.put(0x0010, 0x00, 0x60)
		l.put(0x01fe, 0x43, 0x60)
		o := xlate.Run(blockAt(t, l, 0x8000, 1), api.Regs{S: 0xfd}, 0, l)
		if (o.Left == api.LeftGuard) != c.left || (o.Insts == 0) != c.left {
			t.Errorf("P13.5: %s, reads plain %v, writes plain %v: %s", c.line, c.read, c.write, short(o))
		}
	}
}

// Left ahead of the first instruction: nothing has happened.
func TestLeftAtOnce(t *testing.T) {
	l := console()
	l.put(0x8000, 0x60, 0xea)
	l.put(0x0100, 0x02, 0x20)
	o := xlate.Run(blockAt(t, l, 0x8000, 4), api.Regs{A: 1, X: 2, Y: 3, S: 0xff, P: 0xe4, PC: 9}, 0x77, l)
	outcome(t, "P13.5: RTS to a device", o, guard(api.Regs{A: 1, X: 2, Y: 3, S: 0xff, P: 0xe4, PC: 0x8000}, 0x77, 0, 0))
}

// The flags that a block leaves where it is left are those that all its instructions have set.
func TestFlagsWhereItIsLeft(t *testing.T) {
	for _, c := range []struct {
		lines string
		left  uint8
		p     uint8
	}{
		{"LDA #$80; CMP #$81; LDX $2000", api.LeftGuard, 0xa0}, {"LDA #$80; SEC; LDX #$00; LDX $2000", api.LeftGuard, 0x23}, {"LDA #$80; LDX #$00", api.LeftEnd, 0x22},
		{"BIT $10; LDA #$01; STA $0300", api.LeftStore, 0x60}, {"SED; LDA #$99; ADC #$01; PHA", api.LeftEnd, 0xa9}, {"LDA #$FF; ASL A; INC $0300", api.LeftStore, 0x21},
	} {
		l := console()
		l.put(0x8000, append(codes(t, 0x8000, c.lines), 0xea)...)
		l.put(0x0010, 0xc0)
		l.own[0x0300] = true
		o := xlate.Run(blockAt(t, l, 0x8000, strings.Count(c.lines, ";")+1), api.Regs{S: 0xfd, P: 0x20}, 0, l)
		if o.Left != c.left || o.Regs.P != c.p {
			t.Errorf("P13.5: %s: %s, want left %d, P %02X", c.lines, short(o), c.left, c.p)
		}
	}
}
