package dbt_test

import (
	"strconv"
	"testing"

	"tandem/api"
	"tandem/asm"
	"tandem/cart"
	"tandem/dbt"
)

// Known programs, from their source's text to memory, on caches and blocks of several sizes.

// frame is what most of them have ahead of them: the vectors, and then $C000.
const frame = ".inesprg 1\n.bank 1\n.org $fffa\n .word nmi, start, irq\n.bank 0\n.org $c000\n"

// quiet is handlers for programs that wait for no interrupt.
const quiet = "\nnmi:\nirq: rti\n"

// cartOf is the cartridge of a source.
func cartOf(t *testing.T, source string) api.Cart {
	t.Helper()
	image, err := asm.Image(source)
	if err != nil {
		t.Fatalf("%v in %s", err, source)
	}
	c, e, _ := cart.Parse(image)
	if e != api.OK {
		t.Fatalf("cart.Parse: %d", e)
	}
	return c
}

// each runs a program with several policies to its JAM, or for so many cycles if it has none.
func each(t *testing.T, source string, cycles int, check func(m *dbt.Machine, s api.State)) {
	t.Helper()
	c := cartOf(t, source)
	var first api.State
	for i, p := range [][2]int{{256, 64}, {1, 1}, {7, 3}, {65536, 8}} {
		m := begun(t, c, p[0], p[1])
		for done := 0; done < cycles; {
			n := m.Pass(cycles - done)
			if done += n; n == 1 && m.State().Cpu.Jam {
				break
			}
		}
		s := m.State()
		check(m, s)
		if i == 0 {
			first = s
		}
		sameState(t, "P15.9: another policy", m, first)
	}
}

// A sieve: 54 numbers below 256 are prime. All of it but the reset is blocks.
func TestSieve(t *testing.T) {
	each(t, frame+`
start: ldx #0
 txa
@clear: sta $0200,x
 inx
 bne @clear
 ldx #2
@next: lda $0200,x
 bne @on
 inc $00
 txa
@strike: stx $01
 clc
 adc $01
 bcs @on
 tay
 lda #1
 sta $0200,y
 tya
 jmp @strike
@on: inx
 bne @next
 jam`+quiet, 1000000, func(m *dbt.Machine, s api.State) {
		if s.Mem.Ram[0] != 54 || !s.Cpu.Jam {
			t.Errorf("%d primes", s.Mem.Ram[0])
		}
		if n := m.Stats(); n.Steps != 2 || n.Blocks < 500 {
			t.Errorf("P15.2: steps in a program without devices: %+v", n)
		}
	})
}

// Code in RAM that writes the instruction right ahead of itself: INX and INY by turns.
func TestSelfWriting(t *testing.T) {
	each(t, frame+`
start: lda #5
 sta $10
 ldy #0
 ldx #endcode - code
@copy: lda code-1,x
 sta $01ff,x
 dex
 bne @copy
 jmp $0200
code: lda #$e8 ; at $0200
 sta $0205
 nop ; at $0205
 lda $0201
 eor #$20
 sta $0201
 dec $10
 bne code
 jam
endcode:`+quiet, 1000000, func(m *dbt.Machine, s api.State) {
		if s.Cpu.Regs.X != 3 || s.Cpu.Regs.Y != 2 || s.Mem.Ram[0x201] != 0xc8 || s.Mem.Ram[0x205] != 0xe8 {
			t.Errorf("code that writes itself: X %d, Y %d, % x", s.Cpu.Regs.X, s.Cpu.Regs.Y, s.Mem.Ram[0x200:0x206])
		}
		if n := m.Stats(); n.Dropped == 0 && n.Evicted == 0 {
			t.Errorf("P15.2: nothing was thrown away: %+v", n)
		}
	})
}

// Routines that are copied to one place in work RAM, one behind the other, and called there.
func TestOverlays(t *testing.T) {
	each(t, frame+`
start: ldx #0
 stx $00
@again: ldy #5
@one: lda one,y
 sta $6100,y
 dey
 bpl @one
 jsr $6100
 ldy #5
@two: lda two,y
 sta $6100,y
 dey
 bpl @two
 jsr $6100
 inx
 cpx #20
 bne @again
 jam
one: inc $00
 inc $00
 nop
 rts
two: rol $00
 inc $01
 clc
 rts`+quiet, 1000000, func(m *dbt.Machine, s api.State) {
		want := uint8(0)
		for range 20 {
			want = 2 * (want + 2) // the carry is clear
		}
		if s.Mem.Ram[0] != want || s.Mem.Ram[1] != 20 || !s.Cpu.Jam {
			t.Errorf("overlays: %d, %d, want %d, 20", s.Mem.Ram[0], s.Mem.Ram[1], want)
		}
	})
}

// A frame's NMIs: one in 29780 cycles and a half or so; the loop ahead of them is blocks.
func TestFrames(t *testing.T) {
	each(t, frame+`
start: lda #$40
 sta $4017
 lda #$80
 sta $2000
@on: inc $01
 bne @on
 inc $02
 jmp @on
irq: rti
nmi: inc $00
 rti`, 20*29781, func(m *dbt.Machine, s api.State) {
		n := m.Stats()
		if s.Mem.Ram[0] != 20 {
			t.Errorf("20 frames have %d NMIs", s.Mem.Ram[0])
		}
		nmis := 0
		for _, e := range m.Events() {
			if e.Kind == api.EventNmi {
				nmis++
			}
		}
		if nmis != 20 || n.Steps > 700 {
			t.Errorf("P15.2: %d NMIs, %+v", nmis, n)
		}
	})
}

// The board's IRQs: MMC3 counts scanlines while the raster gives clocks.
func TestScanlines(t *testing.T) {
	each(t, `.inesprg 1
.inesmap 4
.bank 1
.org $fffa
 .word nmi, start, irq
.bank 1
.org $e000
start: lda #$40
 sta $4017
 lda #19
 sta $c000
 sta $c001
 sta $e001
 lda #$08
 sta $2001
 cli
@on: inx
 iny
 jmp @on
irq: sta $e000
 sta $e001
 inc $00
nmi: rti`, 29780, func(m *dbt.Machine, s api.State) {
		if s.Mem.Ram[0] != 12 || !s.Mem.Board.IrqOn || s.Mem.Board.Irq {
			t.Errorf("240 lines and one have %d IRQs at every twentieth", s.Mem.Ram[0])
		}
	})
}

// Banks of a board that is written bit by bit: a routine in each bank, at one address.
func TestBanksProgram(t *testing.T) {
	source := ".inesprg 4\n.inesmap 1\n"
	for bank := range 3 {
		source += ".bank " + strconv.Itoa(2*bank) + "\n.org $8000\n lda #" + strconv.Itoa(40+bank) + "\n rts\n"
	}
	each(t, source+`
.bank 6
.org $c000
start: lda #0
 sta $40
@round: ldx #0
@on: txa
 jsr switch
 jsr $8000
 sta $10,x
 clc
 adc $20,x
 sta $20,x
 inx
 cpx #3
 bne @on
 inc $40
 lda $40
 cmp #5
 bne @round
 jam
switch: sta $e000
 lsr a
 sta $e000
 lsr a
 sta $e000
 lsr a
 sta $e000
 lsr a
 sta $e000
 rts
nmi:
irq: rti
.bank 7
.org $fffa
 .word nmi, start, irq`, 100000, func(m *dbt.Machine, s api.State) {
		for bank := range 3 {
			if s.Mem.Ram[0x10+bank] != uint8(40+bank) || s.Mem.Ram[0x20+bank] != uint8(5*(40+bank)) {
				t.Errorf("bank %d: %d, %d", bank, s.Mem.Ram[0x10+bank], s.Mem.Ram[0x20+bank])
			}
		}
		if !s.Cpu.Jam {
			t.Error("it does not end")
		}
	})
}
