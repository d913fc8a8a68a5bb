package stepper_test

import (
	"bytes"
	"testing"

	"tandem/api"
	"tandem/asm"
	"tandem/cart"
	"tandem/stepper"
)

// Known programs, from their source's text to memory.

// frame is what all of them have ahead of them: the vectors, and then $C000.
const frame = ".inesprg 1\n.bank 1\n.org $fffa\n .word nmi, start, irq\n.bank 0\n.org $c000\n"

// powered is a machine with the program of a source, ahead of its reset entry.
func powered(t *testing.T, source string) *stepper.Machine {
	t.Helper()
	image, err := asm.Image(frame + source)
	if err != nil {
		t.Fatalf("%v in %s", err, source)
	}
	c, e, _ := cart.Parse(image)
	if e != api.OK {
		t.Fatalf("cart.Parse: %d", e)
	}
	return begun(t, c)
}

// quiet is handlers for programs that wait for no interrupt.
const quiet = "\nnmi:\nirq: rti\n"

// stops runs a program to its JAM, and tells the state there.
func stops(t *testing.T, name, source string) api.State {
	t.Helper()
	m := powered(t, source)
	for m.Mem().Cycle < 1000000 {
		ends(m)
		if s := stateOf(t, m); s.Cpu.Jam {
			return s
		}
	}
	t.Fatalf("%s does not end", name)
	return api.State{}
}

// word is two bytes of RAM.
func word(s api.State, at int) int {
	return int(s.Mem.Ram[at]) + 256*int(s.Mem.Ram[at+1])
}

func TestSum(t *testing.T) {
	s := stops(t, "a sum", `
start: lda #0
 sta $10
 sta $11
 ldx #200
@on: txa
 clc
 adc $10
 sta $10
 bcc @next
 inc $11
@next: dex
 bne @on
 jam`+quiet)
	// The reset, what is ahead of the loop, 200 rounds of it, of which the last one does not go back and 78 have a carry, and JAM.
	if word(s, 0x10) != 20100 || s.Mem.Cycle != 7+10+200*(10+3+5)-1+78*4+1 {
		t.Errorf("1 + .. + 200 is %d in %d cycles", word(s, 0x10), s.Mem.Cycle)
	}
}

func TestFibonacci(t *testing.T) {
	s := stops(t, "Fibonacci's numbers", `
start: ldx #0
 stx $20
 stx $21
 stx $23
 inx
 stx $22
 ldy #22
@on: clc
 lda $20
 adc $22
 pha
 lda $21
 adc $23
 ldx $22
 stx $20
 ldx $23
 stx $21
 sta $23
 pla
 sta $22
 dey
 bne @on
 jam`+quiet)
	if word(s, 0x20) != 17711 || word(s, 0x22) != 28657 || s.Cpu.Regs.S != 0xfd {
		t.Errorf("Fibonacci's numbers 22 and 23 are %d, %d", word(s, 0x20), word(s, 0x22))
	}
}

// Shifts and sums: 16 bits times 8 bits, and a division.
func TestMultiplyAndDivide(t *testing.T) {
	s := stops(t, "a product", `
start: ldx #0
 lda #<777
 sta $00
 lda #>777
 sta $01
 lda #83
 sta $02
 stx $04
 stx $05
 ldy #8
@bit: lsr $02
 bcc @none
 clc
 lda $04
 adc $00
 sta $04
 lda $05
 adc $01
 sta $05
@none: asl $00
 rol $01
 dey
 bne @bit
 lda $04 ; and back: the product by 83
 sta $08
 lda $05
 sta $09
 lda #0
 ldx #16
@div: asl $08
 rol $09
 rol a
 bcs @over
 cmp #83
 bcc @under
@over: sbc #83
 inc $08
@under: dex
 bne @div
 sta $0a
 jam`+quiet)
	if word(s, 4) != 777*83 || word(s, 8) != 777 || s.Mem.Ram[10] != 0 {
		t.Errorf("777 times 83 is %d, by 83 %d and %d", word(s, 4), word(s, 8), s.Mem.Ram[10])
	}
}

func TestSieve(t *testing.T) {
	s := stops(t, "a sieve", `
table = $0300
start: ldx #2
@outer: lda table,x
 bne @next
 txa
 sta $00
 asl a
 bcs @next
@inner: tay
 lda #1
 sta table,y
 tya
 clc
 adc $00
 bcc @inner
@next: inx
 bne @outer
 jam`+quiet)
	for n := 2; n < 256; n++ {
		prime := true
		for d := 2; d*d <= n; d++ {
			prime = prime && n%d != 0
		}
		if (s.Mem.Ram[0x300+n] == 0) != prime {
			t.Errorf("the sieve is wrong of %d", n)
		}
	}
}

// Pointers, in both indirect modes.
func TestSort(t *testing.T) {
	s := stops(t, "a sort", `
start: ldy #0
 lda #<data
 sta $10
 lda #>data
 sta $11
@copy: lda ($10),y
 sta $0400,y
 iny
 cpy #size
 bne @copy
@again: ldx #0
 ldy #0
@pass: lda $0400,x
 cmp $0401,x
 bcc @right
 beq @right
 pha
 lda $0401,x
 sta $0400,x
 pla
 sta $0401,x
 iny
@right: inx
 cpx #size - 1
 bne @pass
 tya
 bne @again
 ldx #$10 ; the first one through ($00,X)
 sty $10
 lda #$04
 sta $11
 lda ($00,x)
 sta $20
 jam
data: .byte 9, 3, 255, 0, 17, 4, 4, 200, 1, 128, 127
size = * - data`+quiet)
	want := []byte{0, 1, 3, 4, 4, 9, 17, 127, 128, 200, 255}
	if !bytes.Equal(s.Mem.Ram[0x400:0x40b], want) || s.Mem.Ram[0x20] != 0 {
		t.Errorf("sorted: %v", s.Mem.Ram[0x400:0x40b])
	}
}

// Calls within calls: the towers of Hanoi, counted; and a jump through a table.
func TestCalls(t *testing.T) {
	s := stops(t, "calls", `
start: lda #6
 jsr hanoi
 ldx #2
 lda table,x
 sta $20
 lda table+1,x
 sta $21
 jmp ($20)
hanoi: cmp #0
 beq @done
 pha
 sec
 sbc #1
 jsr hanoi
 inc $00
 pla
 sec
 sbc #1
 jsr hanoi
@done: rts
first: inc $01
second: inc $02
 jam
table: .word first, second`+quiet)
	if s.Mem.Ram[0] != 63 || s.Mem.Ram[1] != 0 || s.Mem.Ram[2] != 1 || s.Cpu.Regs.S != 0xfd {
		t.Errorf("calls: %v, S %#x", s.Mem.Ram[:3], s.Cpu.Regs.S)
	}
}

// Decimal numbers, and undocumented operations.
func TestDecimal(t *testing.T) {
	s := stops(t, "decimal sums", `
start: sed
 clc
 lda #$58
 adc #$46
 sta $00
 lda #$12
 adc #$34
 sta $01
 sec
 lda #$21
 sbc #$34
 sta $02
 cld
 php
 pla
 sta $03
 lda #$0f
 sta $10
 slo $10
 sta $11
 lax $10
 stx $12
 dcp $10
 isc $13
 jam`+quiet)
	if got := s.Mem.Ram[:4]; !bytes.Equal(got, []byte{0x04, 0x47, 0x87, 0xb4}) {
		t.Errorf("decimal: % x", got)
	}
	if got := s.Mem.Ram[0x10:0x14]; !bytes.Equal(got, []byte{0x1d, 0x1f, 0x1e, 0x01}) {
		t.Errorf("undocumented: % x", got)
	}
}

// BRK as a call: its handler finds the byte behind it.
func TestBrkProgram(t *testing.T) {
	s := stops(t, "BRK", `
start: ldx #$ff
 txs
 brk
 .byte $5a
 inc $01
 jam
nmi: rti
irq: sta $08
 stx $09
 tsx
 lda $0101,x
 and #$10
 sta $02
 sec
 lda $0102,x
 sbc #1
 sta $10
 lda $0103,x
 sbc #0
 sta $11
 ldy #0
 lda ($10),y
 sta $00
 lda $08
 ldx $09
 rti`)
	if got := s.Mem.Ram[:3]; !bytes.Equal(got, []byte{0x5a, 1, 0x10}) || s.Cpu.Regs.S != 0xff {
		t.Errorf("BRK: % x, S %#x", got, s.Cpu.Regs.S)
	}
}

// An NMI a frame, and a DMA in each.
func TestNmiProgram(t *testing.T) {
	m := powered(t, `
start: lda #$80
 sta $2000
@on: inc $10
 bne @on
 inc $11
 jmp @on
nmi: pha
 lda #$03
 sta $4014
 inc $00
 pla
irq: rti`)
	m.Play(api.Turn{Budget: 10 * 29781})
	s, nmis := stateOf(t, m), 0
	for _, e := range m.Events() {
		if e.Kind == api.EventNmi {
			nmis++
			if e.Vector != 0xfffa || e.P&0x10 != 0 {
				t.Errorf("an NMI: %+v", e)
			}
		}
	}
	if nmis != 10 || s.Mem.Ram[0] != 10 {
		t.Errorf("ten frames have %d NMIs, %d counted", nmis, s.Mem.Ram[0])
	}
	writes := 0
	for _, a := range m.Log() {
		if a.Addr == 0x2004 && a.Write {
			writes++
		}
	}
	if writes != 10*256 {
		t.Errorf("ten frames have %d writes to $2004", writes)
	}
}

// The timer's IRQs, each of them acknowledged.
func TestIrqProgram(t *testing.T) {
	m := powered(t, `
start: lda #$40
 sta $4017 ; the sequencer asks no more
 lda #<999
 sta $4018
 lda #>999
 sta $4019
 lda #$83
 sta $401a
 cli
@on: jmp @on
irq: bit $401b
 inc $00
 bne nmi
 inc $01
nmi: rti`)
	m.Play(api.Turn{Budget: 300500})
	s := stateOf(t, m)
	irqs := 0
	for _, e := range m.Events() {
		if e.Kind == api.EventIrq {
			irqs++
			if e.PC < 0xc000 || e.P != 0x20 && e.P != 0xa0 || e.Vector != 0xfffe {
				t.Errorf("an IRQ: %+v", e)
			}
		}
	}
	if irqs != 300 || word(s, 0) != 300 {
		t.Errorf("300 rounds of the timer have %d IRQs, %d counted", irqs, word(s, 0))
	}
}

// The pads, read bit by bit into a byte each.
func TestPadsProgram(t *testing.T) {
	m := powered(t, `
start: lda #1
 sta $4016
 lda #0
 sta $4016
 ldx #8
@on: lda $4016
 lsr a
 ror $00
 lda $4017
 lsr a
 ror $01
 dex
 bne @on
 inc $02
 jmp start`+quiet)
	for i := range 20 {
		one, two := uint8(37*i+11), uint8(91*i+5)
		if _, e := m.Play(api.Turn{Budget: 1000, One: one, Two: two}); e != api.OK {
			t.Fatal(e)
		}
		for n := m.Mem().Ram[2]; m.Mem().Ram[2] == n; {
			m.Tick()
		}
		if r := m.Mem().Ram; r[0] != one || r[1] != two {
			t.Errorf("the pads are read as %#x, %#x, want %#x, %#x", r[0], r[1], one, two)
		}
		for m.Step() != 0 {
			m.Tick()
		}
	}
}

// Code in RAM that writes itself.
func TestSelfWriting(t *testing.T) {
	s := stops(t, "code that writes itself", `
start: ldx #endcode - code
@copy: lda code-1,x
 sta $01ff,x
 dex
 bne @copy
 jmp $0200
code: lda #0 ; at $0200: its operand goes up
 sta $0300
 inc $0201
 ldy $0201
 cpy #40
 bne code
 jam
endcode:`+quiet)
	if s.Mem.Ram[0x300] != 39 || s.Mem.Ram[0x201] != 40 || s.Cpu.Regs.PC != 0x020f {
		t.Errorf("code that writes itself: %d, %d, PC %#x", s.Mem.Ram[0x300], s.Mem.Ram[0x201], s.Cpu.Regs.PC)
	}
}

// Banks of a board: each bank's own byte, by a jump over all of them.
func TestBanksProgram(t *testing.T) {
	source := ".inesprg 4\n.inesmap 2\n"
	for bank := range 6 {
		source += ".bank " + string(rune('0'+bank)) + "\n.org $8000\n .byte $4" + string(rune('0'+bank)) + "\n"
	}
	image, err := asm.Image(source + `
.bank 6
.org $c000
start: ldx #0
@on: stx $c000 ; no conflict: the board has none
 lda $8000
 sta $10,x
 inx
 cpx #3
 bne @on
 jam
nmi:
irq: rti
.bank 7
.org $fffa
 .word nmi, start, irq`)
	if err != nil {
		t.Fatal(err)
	}
	c, _, _ := cart.Parse(image)
	m := begun(t, c)
	m.Run(200)
	s := stateOf(t, m)
	if got := s.Mem.Ram[0x10:0x13]; !s.Cpu.Jam || !bytes.Equal(got, []byte{0x40, 0x42, 0x44}) || s.Mem.Board.Epoch == 0 {
		t.Errorf("banks: % x", got)
	}
	if l := m.Log(); len(l) != 3 || l[0].Addr != 0xc000 || !l[0].Write || l[2].Val != 2 {
		t.Errorf("Logs: %+v", l)
	}
}
