package interp_test

import (
	"bytes"
	"strconv"
	"testing"

	"tandem/api"
	"tandem/asm"
	"tandem/cart"
	"tandem/interp"
)

// Known programs, from their source's text to memory.

// frame is what most of them have ahead of them: the vectors, and then $C000.
const frame = ".inesprg 1\n.bank 1\n.org $fffa\n .word nmi, start, irq\n.bank 0\n.org $c000\n"

// quiet is handlers for programs that wait for no interrupt.
const quiet = "\nnmi:\nirq: rti\n"

// cartOf is the cartridge of a source.
func cartOf(t *testing.T, source string) api.Cart {
	t.Helper()
	image, err := asm.Image(source)
	if err != nil {
		t.Fatalf("%v in %s", err, source)
	}
	c, e, _ := cart.Parse(image)
	if e != api.OK {
		t.Fatalf("cart.Parse: %d", e)
	}
	return c
}

// powered is a machine with the program of a source, ahead of its reset entry.
func powered(t *testing.T, source string) *interp.Machine {
	t.Helper()
	return begun(t, cartOf(t, frame+source))
}

// stops runs a program to its JAM, beside the stepper, and tells the state there.
func stops(t *testing.T, name, source string) api.State {
	t.Helper()
	p := both(t, cartOf(t, frame+source))
	for p.m.Bus().Cycle() < 300000 {
		p.step(name)
		if p.m.Cpu().Jam {
			return p.m.State()
		}
	}
	t.Fatalf("%s does not end", name)
	return api.State{}
}

// word is two bytes of RAM.
func word(s api.State, at int) int {
	return int(s.Mem.Ram[at]) + 256*int(s.Mem.Ram[at+1])
}

// Loops and branches, whose cycles are counted by hand.
func TestGreatestDivisor(t *testing.T) {
	s := stops(t, "a greatest common divisor", `
start: lda #252
 sta $00
 lda #105
 sta $01
@on: lda $00
 cmp $01
 beq @done
 bcc @less
 sbc $01
 sta $00
 jmp @on
@less: lda $01
 sbc $00
 clc
 adc #1 ; the borrow of the comparison
 sta $01
 jmp @on
@done: jam`+quiet)
	a, b, want := 252, 105, 7+10
	for a != b {
		if a > b {
			a, want = a-b, want+3+3+2+2+3+3+3
		} else {
			b, want = b-a, want+3+3+2+3+3+3+2+2+3+3
		}
	}
	want += 3 + 3 + 3 + 1
	if int(s.Cpu.Regs.A) != a || s.Cpu.Regs.A != 21 || s.Mem.Cycle != want {
		t.Errorf("the greatest common divisor of 252 and 105 is %d in %d cycles, want %d", s.Cpu.Regs.A, s.Mem.Cycle, want)
	}
}

// Shifts through carry: the CRC-16 of nine digits, whose value is known.
func TestCrc(t *testing.T) {
	s := stops(t, "a CRC", `
start: ldx #$ff
 stx $00
 stx $01 ; the high byte
 inx
@byte: lda text,x
 eor $01
 sta $01
 ldy #8
@bit: asl $00
 rol $01
 bcc @none
 lda $00
 eor #$21
 sta $00
 lda $01
 eor #$10
 sta $01
@none: dey
 bne @bit
 inx
 cpx #9
 bne @byte
 jam
text: .byte "123456789"`+quiet)
	if got := word(s, 0); got != 0x29b1 {
		t.Errorf("the CRC of 123456789 is %#x", got)
	}
}

// Sums of two bytes: a square root by odd numbers.
func TestSquareRoot(t *testing.T) {
	s := stops(t, "a square root", `
start: lda #<54321
 sta $00
 lda #>54321
 sta $01
 ldx #1
 stx $02
 dex
 stx $03
@on: sec
 lda $00
 sbc $02
 tay
 lda $01
 sbc $03
 bcc @done
 sta $01
 sty $00
 inx
 clc
 lda $02
 adc #2
 sta $02
 bcc @on
 inc $03
 bne @on
@done: jam`+quiet)
	if s.Cpu.Regs.X != 233 || word(s, 0) != 54321-233*233 {
		t.Errorf("the root of 54321 is %d, and %d are left", s.Cpu.Regs.X, word(s, 0))
	}
}

// Decimal mode: a counter of four digits, up and down.
func TestDecimalCounter(t *testing.T) {
	s := stops(t, "a decimal counter", `
start: sed
 lda #0
 sta $00
 sta $01
 ldx #250
@on: jsr up
 jsr up
 jsr up
 dex
 bne @on
 lda $00
 sta $10
 lda $01
 sta $11
 ldy #77
@down: sec
 lda $00
 sbc #5
 sta $00
 lda $01
 sbc #0
 sta $01
 dey
 bne @down
 jam
up: clc
 lda $00
 adc #1
 sta $00
 lda $01
 adc #0
 sta $01
 rts`+quiet)
	if got, down := word(s, 0x10), word(s, 0); got != 0x0750 || down != 0x0365 {
		t.Errorf("the counter stands at %04x, and then at %04x", got, down)
	}
}

// Calls within calls: Ackermann's function on the stack.
func TestAckermann(t *testing.T) {
	s := stops(t, "Ackermann's function", `
start: ldx #2
 ldy #3
 jsr acker
 sty $00
 jam
acker: cpx #0 ; Y becomes A(X, Y); X stays
 bne @more
 iny
 rts
@more: cpy #0
 bne @both
 dex
 iny
 jsr acker
 inx
 rts
@both: dey
 jsr acker
 dex
 jsr acker
 inx
 rts`+quiet)
	if s.Mem.Ram[0] != 9 || s.Cpu.Regs.X != 2 || s.Cpu.Regs.S != 0xfd {
		t.Errorf("A(2, 3) is %d, S %#x", s.Mem.Ram[0], s.Cpu.Regs.S)
	}
}

// All indirect modes, and work RAM: a text is turned round, and its letters are counted.
func TestTexts(t *testing.T) {
	s := stops(t, "texts", `
start: lda #<text
 sta $10
 lda #>text
 sta $11
 lda #$f0 ; over a page's end
 sta $20
 lda #$60
 sta $21
 ldy #size - 1
 ldx #0
@turn: lda ($10),y
 pha
 sty $30
 txa
 tay
 pla
 sta ($20),y
 ldy $30
 inx
 dey
 bpl @turn
 ldx #0
 ldy #size
@count: lda ($20,x)
 cmp #'a'
 bne @other
 inc $40
@other: inc $20
 bne @page
 inc $21
@page: dey
 bne @count
 jam
text: .byte "a man, a plan, a canal: panama"
size = * - text`+quiet)
	text := "a man, a plan, a canal: panama"
	for i := range text {
		if got := s.Mem.Work[0xf0+i]; got != text[len(text)-1-i] {
			t.Errorf("letter %d is %q", i, got)
		}
	}
	if s.Mem.Ram[0x40] != 10 || word(s, 0x20) != 0x60f0+len(text) {
		t.Errorf("%d letters counted, up to %#x", s.Mem.Ram[0x40], word(s, 0x20))
	}
}

// Undocumented operations.
func TestUndocumented(t *testing.T) {
	s := stops(t, "undocumented operations", `
start: ldx #$0f
 lda #$3c
 sax $00 ; $0C
 lax $00
 stx $01 ; $0C
 lda #$81
 sta $02
 lda #$10
 slo $02 ; $02, A $12
 sta $03
 sec
 rla $02 ; $05, A $00
 sta $04
 lda #$05
 sta $05
 lda #$f0
 sre $05 ; $02, A $F2, C
 sta $06
 rra $05 ; $81, A $73
 sta $07
 lda #$40
 sta $08
 lda #$3f
 dcp $08 ; $3F: equal
 php
 pla
 sta $09
 sec
 lda #$50
 isc $08 ; $40, A $10
 sta $0a
 lda #$f0
 ldx #$3c
 sbx #$31 ; $FF
 stx $0b
 lda #$c3
 anc #$f0
 sta $0c ; $C0
 alr #$ff
 sta $0d ; $60
 sec
 lda #$ff
 arr #$7f
 sta $0e ; $BF
 nop $1234,x
 nop #$12
 jam`+quiet)
	want := []byte{0x0c, 0x0c, 0x05, 0x12, 0x00, 0x81, 0xf2, 0x73, 0x40, 0x77, 0x10, 0xff, 0xc0, 0x60, 0xbf}
	if got := s.Mem.Ram[:15]; !bytes.Equal(got, want) {
		t.Errorf("undocumented operations leave % x, want % x", got, want)
	}
}

// BRK as a call: the byte behind it chooses a routine, which is reached by a jump through a pointer.
func TestBreakAsACall(t *testing.T) {
	s := stops(t, "BRK", `
start: brk
 .byte 2
 brk
 .byte 0
 brk
 .byte 1
 brk
 .byte 2
 jam
nmi: rti
irq: pha
 tsx
 lda $0104,x
 sta $11
 lda $0103,x
 sec
 sbc #1
 sta $10
 ldx #0
 lda ($10,x)
 asl a
 tax
 lda table,x
 sta $12
 lda table+1,x
 sta $13
 jmp ($0012)
one: inc $01
 pla
 rti
two: inc $02
 pla
 rti
three: inc $03
 pla
 rti
table: .word one, two, three`)
	if got := s.Mem.Ram[1:4]; !bytes.Equal(got, []byte{1, 1, 2}) || s.Cpu.Regs.S != 0xfd || s.Cpu.Regs.P&0x30 != 0x20 {
		t.Errorf("BRK calls % x, S %#x", got, s.Cpu.Regs.S)
	}
}

// An NMI a frame, and in each a DMA of a page that changes.
func TestFrames(t *testing.T) {
	m := powered(t, `
start: lda #$80
 sta $2000
@on: inc $10
 jmp @on
nmi: pha
 inc $00
 ldx $00
 stx $0300
 lda #0
 sta $2003
 lda #$03
 sta $4014
 pla
irq: rti`)
	for frame := 1; frame <= 10; frame++ {
		m.Play(api.Turn{Budget: 29781})
		s, nmis, writes := m.State(), 0, 0
		for _, e := range m.Events() {
			if e.Kind == api.EventNmi {
				nmis++
				if e.Vector != 0xfffa || e.P&0x10 != 0 || e.PC < 0xc005 || e.PC > 0xc00a {
					t.Errorf("an NMI: %+v", e)
				}
			}
		}
		for _, a := range m.Log() {
			if a.Addr == 0x2004 && a.Write {
				writes++
			}
		}
		if nmis != 1 || int(s.Mem.Ram[0]) != frame || int(s.Mem.Video.Oam[0]) != frame || writes != 256 {
			t.Errorf("frame %d has %d NMIs, %d counted, %d writes to $2004", frame, nmis, s.Mem.Ram[0], writes)
		}
	}
}

// The vertical blank, waited for by reads of $2002, and video memory filled and read back in it.
func TestVideoMemory(t *testing.T) {
	s := stops(t, "video memory", `
start: bit $2002
@wait: bit $2002
 bpl @wait
 inc $00
 lda #$21
 sta $2006
 lda #$08
 sta $2006
 ldx #0
@fill: txa
 asl a
 sta $2007
 inx
 cpx #40
 bne @fill
 lda #$21
 sta $2006
 lda #$08
 sta $2006
 lda $2007 ; what the buffer had
 ldx #0
@read: lda $2007
 sta $0400,x
 inx
 cpx #40
 bne @read
 jam`+quiet)
	for i := range 40 {
		if s.Mem.Ram[0x400+i] != uint8(2*i) || s.Mem.Video.Nt[0x108+i] != uint8(2*i) {
			t.Errorf("byte %d is %d", i, s.Mem.Ram[0x400+i])
		}
	}
	if s.Mem.Ram[0] != 1 || s.Mem.Cycle < 27394 {
		t.Errorf("the vertical blank is seen in cycle %d", s.Mem.Cycle)
	}
}

// The timer's IRQs, each of them acknowledged, while SEI and CLI come and go.
func TestTimerProgram(t *testing.T) {
	m := powered(t, `
start: lda #$40
 sta $4017 ; the sequencer asks no more
 lda #<499
 sta $4018
 lda #>499
 sta $4019
 lda #$83
 sta $401a
@on: cli
 nop
 sei
 inc $10
 jmp @on
irq: bit $401b
 inc $00
 bne nmi
 inc $01
nmi: rti`)
	m.Play(api.Turn{Budget: 200400})
	irqs := 0
	for _, e := range m.Events() {
		if e.Kind == api.EventIrq {
			irqs++
			if e.P&0x10 != 0 || e.Vector != 0xfffe {
				t.Errorf("an IRQ: %+v", e)
			}
		}
	}
	if s := m.State(); irqs != 400 || word(s, 0) != 400 {
		t.Errorf("400 rounds of the timer have %d IRQs, %d counted", irqs, word(s, 0))
	}
}

// The sequencer's IRQs: a frame is 29830 cycles, and a read of $4015 acknowledges.
func TestSequencerProgram(t *testing.T) {
	m := powered(t, `
start: cli
@on: jmp @on
irq: lda $4015
 and #$40
 beq nmi
 ldx #30 ; until the sequencer has asked three times over
@wait: dex
 bne @wait
 lda $4015
 inc $00
nmi: rti`)
	m.Play(api.Turn{Budget: 20*29830 + 300})
	irqs := []api.Event{}
	for _, e := range m.Events() {
		if e.Kind == api.EventIrq {
			irqs = append(irqs, e)
		}
	}
	if len(irqs) != 20 || m.State().Mem.Ram[0] != 20 {
		t.Fatalf("20 rounds of the sequencer have %d IRQs, %d counted", len(irqs), m.State().Mem.Ram[0])
	}
	for i, e := range irqs { // a JMP has three cycles, of which the last one lies behind its poll
		if late := e.Cycle - 29828 - 29830*i; late < 1 || late > 3 {
			t.Errorf("IRQ %d comes %d cycles behind the sequencer", i, late)
		}
	}
}

// The board's IRQs: MMC3 counts scanlines while the raster gives clocks.
func TestScanlines(t *testing.T) {
	c := cartOf(t, `.inesprg 1
.inesmap 4
.bank 1
.org $fffa
 .word nmi, start, irq
.bank 1
.org $e000
start: lda #$40
 sta $4017
 lda #19
 sta $c000
 sta $c001
 sta $e001
 lda #$08
 sta $2001
 cli
@on: jmp @on
irq: sta $e000
 sta $e001
 inc $00
nmi: rti`)
	m := begun(t, c)
	m.Play(api.Turn{Budget: 29780})
	if got, board := int(m.State().Mem.Ram[0]), m.State().Mem.Board; got != 12 || !board.IrqOn || board.Irq {
		t.Errorf("240 lines and one have %d IRQs at every twentieth", got)
	}
}

// The pads, read bit by bit into a byte each.
func TestPadsProgram(t *testing.T) {
	m := powered(t, `
start: ldx #1
 stx $4016
 dex
 stx $4016
 ldy #8
@on: lda $4016
 ror a
 rol $00
 lda $4017
 ror a
 rol $01
 dey
 bne @on
 inc $02
 jmp start`+quiet)
	reversed := func(v uint8) uint8 {
		r := uint8(0)
		for i := range 8 {
			r |= v >> i & 1 << (7 - i)
		}
		return r
	}
	for i := range 20 {
		one, two := uint8(37*i+11), uint8(91*i+5)
		if _, e := m.Play(api.Turn{Budget: 1000, One: one, Two: two}); e != api.OK {
			t.Fatal(e)
		}
		for n := m.Bus().Peek(2); m.Bus().Peek(2) == n; {
			m.Step()
		}
		if r := m.State().Mem.Ram; r[0] != reversed(one) || r[1] != reversed(two) {
			t.Errorf("the pads are read as %#x, %#x, want %#x, %#x", r[0], r[1], reversed(one), reversed(two))
		}
	}
}

// Code in RAM that writes the instruction right ahead of itself: INX and INY by turns.
func TestSelfWriting(t *testing.T) {
	s := stops(t, "code that writes itself", `
start: lda #5
 sta $10
 ldy #0
 ldx #endcode - code
@copy: lda code-1,x
 sta $01ff,x
 dex
 bne @copy
 jmp $0200
code: lda #$e8 ; at $0200
 sta $0205
 nop ; at $0205
 lda $0201
 eor #$20
 sta $0201
 dec $10
 bne code
 jam
endcode:`+quiet)
	if s.Cpu.Regs.X != 3 || s.Cpu.Regs.Y != 2 || s.Mem.Ram[0x201] != 0xc8 || s.Mem.Ram[0x205] != 0xe8 {
		t.Errorf("code that writes itself: X %d, Y %d, % x", s.Cpu.Regs.X, s.Cpu.Regs.Y, s.Mem.Ram[0x200:0x206])
	}
}

// Banks of a board that is written bit by bit: a routine in each bank.
func TestBanksProgram(t *testing.T) {
	source := ".inesprg 4\n.inesmap 1\n"
	for bank := range 3 {
		source += ".bank " + strconv.Itoa(2*bank) + "\n.org $8000\n lda #" + strconv.Itoa(40+bank) + "\n rts\n"
	}
	m := begun(t, cartOf(t, source+`
.bank 6
.org $c000
start: ldx #0
@on: txa
 jsr switch
 jsr $8000
 sta $10,x
 inx
 cpx #3
 bne @on
 jam
switch: sta $e000
 lsr a
 sta $e000
 lsr a
 sta $e000
 lsr a
 sta $e000
 lsr a
 sta $e000
 rts
nmi:
irq: rti
.bank 7
.org $fffa
 .word nmi, start, irq`))
	for !m.Cpu().Jam && m.Bus().Cycle() < 1000 {
		m.Step()
	}
	writes := 0
	for _, a := range m.Log() {
		if a.Addr == 0xe000 && a.Write {
			writes++
		}
	}
	s := m.State()
	if got := s.Mem.Ram[0x10:0x13]; !s.Cpu.Jam || !bytes.Equal(got, []byte{40, 41, 42}) || writes != 15 || s.Mem.Board.PrgR != 2 {
		t.Errorf("banks: % x, %d writes", got, writes)
	}
}
