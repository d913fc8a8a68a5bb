package console_test

import (
	"fmt"
	"strings"
	"testing"

	"tandem/api"
)

// readsPads is a program that reads both pads over and over: what the first one holds is at $20 then, what the second one holds at $21.
const readsPads = `
start: lda #1
 sta $4016
 lsr a
 sta $4016
 ldx #8
@on: lda $4016
 lsr a
 ror $10
 lda $4017
 lsr a
 ror $11
 dex
 bne @on
 lda $10
 sta $20
 lda $11
 sta $21
 jmp start
nmi:
irq: rti
`

// 18.3: run goes on up to the first boundary at which the budget is done, and tells how many cycles that took.
func TestRun(t *testing.T) {
	for _, engine := range engines {
		answers(t, engine, cartL, engine+"\nrun 0\nregs\nrun 1\nregs\nrun 0\nrun 2\nrun 3\nrun 1\nrun 50\nregs",
			engine+"\nran 0\n"+newRegs+"\nran 7\n"+afterBoot+"\nran 0\nran 2\nran 5\nran 2\nran 51\n"+
				"pc=C002 a=00 x=05 y=00 s=FD p=24 take=0 jam=0 cycle=67\n")
	}
}

// 18.3: a run and a trace have the pads as they are.
func TestRunKeepsPads(t *testing.T) {
	image := built(t, readsPads)
	for _, engine := range engines {
		text := done(t, engine, image, engine+"\nrun 1000\npeek $20 2\npads 129 $7e\nrun 1000\npeek $20 2\nrun 1000\npeek $20 2\ntrace 256\npeek $20 2\npads 0 0\nrun 1000\npeek $20 2\n")
		if got := only(text, "0020:"); got != "0020: 00 00\n0020: 81 7E\n0020: 81 7E\n0020: 81 7E\n0020: 00 00\n" {
			t.Errorf("%s: the pads were %q", engine, got)
		}
		if got := only(text, "pads"); got != "pads 81 7E\npads 00 00\n" {
			t.Errorf("%s: the answers were %q", engine, got)
		}
	}
}

// 18.3: the pads are those of the state that the machine goes on from: behind load, back, power and engine.
func TestPadsAcrossStates(t *testing.T) {
	image := built(t, readsPads)
	for _, x := range []struct{ commands, want string }{
		{"run 7", "00 00"},
		{"run 7\npads 1 2", "01 02"},
		{"pads 1 2\nsave 0\npads 3 4", "03 04"},
		{"pads 1 2\nsave 0\npads 3 4\nload 0", "01 02"},
		{"pads 1 2\nsave 0\npads 3 4\nload 0\npads 5 6", "05 06"},
		{"save 0\npads 3 4\nload 0", "00 00"},
		{"pads 1 2\nmark\npads 3 4\nrun 500\nback", "01 02"},
		{"pads 1 2\nmark\npads 3 4\nmark\npads 5 6\nback", "03 04"},
		{"pads 1 2\nmark\npads 3 4\nmark\npads 5 6\nback\nback", "01 02"},
		{"pads 1 2\npower", "00 00"},
		{"pads 1 2\nrun 7\npower\npads 3 4", "03 04"},
		{"pads 1 2\nreset", "01 02"},
		{"pads 1 2\nengine step", "01 02"},
		{"pads 1 2\nengine interp", "01 02"},
		{"pads 1 2\nengine dbt 4 4", "01 02"},
		{"pads 1 2\nscript 2\nscript 1\n|0|9|......BA|.....SB.|", "03 06"},
		{"pads 1 2\nscript 2\nscript 1\n|0|0|......BA|.....SB.|", "03 06"},
		{"pads 1 2\nscript 1\nscript 1", "01 02"},
		{"pads 1 2\nscript 2\nscript 1\n# |0|0|......BA|.....SB.|", "01 02"},
		{"save 0\nscript 2\nscript 1\n|0|9|R.......|.L.....A|\nload 0", "00 00"},
	} {
		for _, engine := range engines {
			text := done(t, engine, image, engine+"\n"+x.commands+"\nrun 1000\npeek $20 2")
			if got := last(text); got != "0020: "+x.want {
				t.Errorf("%s: %q: the pads are %s, want %s", engine, x.commands, got, x.want)
			}
		}
	}
}

// 18.3: while the strobe is high, what is pressed is read at once.
func TestPadsUnderStrobe(t *testing.T) {
	image := built(t, "start: lda #1\n sta $4016\n@on: lda $4016\n sta $20\n jmp @on\nnmi:\nirq: rti\n")
	for _, engine := range engines {
		text := done(t, engine, image, engine+"\nrun 50\npeek $20 1\npads 1 0\nrun 0\npeek $4016 1\nrun 50\npeek $20 1\npads 2 0\nrun 50\npeek $20 1")
		if got := only(text, "0020:"); got != "0020: 40\n0020: 41\n0020: 40\n" {
			t.Errorf("%s: read under the strobe: %q", engine, got)
		}
	}
}

// 18.3: the reset button leaves registers, memories, pads and the cycle counter as they are; a reset entry is next.
func TestReset(t *testing.T) {
	image := built(t, "start: lda #$80\n sta $6000\n sta $10\n sta $2000\n sta $4014\n jmp start\nnmi:\nirq: rti\n")
	for _, engine := range engines {
		answers(t, engine, image, engine+"\npads 1 2\nrun 25\nregs\nreset\nregs\npeek $6000 1\npeek $10 1\nrun 1\nregs\nevents\nreset\nreset\nregs\n",
			engine+"\npads 01 02\nran 25\npc=C00D a=80 x=00 y=00 s=FD p=A4 take=0 jam=0 cycle=25\nreset\npc=C00D a=80 x=00 y=00 s=FD p=A4 take=3 jam=0 cycle=25\n"+
				"6000: 80\n0010: 80\nran 7\npc=C000 a=80 x=00 y=00 s=FA p=A4 take=0 jam=0 cycle=32\nevents 2\nRESET 0000 00 FFFC @0\nRESET 0000 00 FFFC @25\n"+
				"reset\nreset\npc=C000 a=80 x=00 y=00 s=FA p=A4 take=3 jam=0 cycle=32\n")
	}
	// A jammed machine wakes by it, and by power.
	jam := imageOf(0x02)
	for _, engine := range engines {
		answers(t, engine, jam, engine+"\nrun 100\nregs\nrun 100\nreset\nregs\nrun 7\nrun 9\nregs\npower\nregs",
			engine+"\nran 100\npc=C000 a=00 x=00 y=00 s=FD p=24 take=0 jam=1 cycle=100\nran 100\nreset\npc=C000 a=00 x=00 y=00 s=FD p=24 take=3 jam=0 cycle=200\n"+
				"ran 7\nran 9\npc=C000 a=00 x=00 y=00 s=FA p=24 take=0 jam=1 cycle=216\npower\n"+newRegs+"\n")
	}
}

// 18.3, 18.4: a trace's lines, instruction by instruction; each is a turn with budget 1.
func TestTrace(t *testing.T) {
	for _, engine := range engines {
		answers(t, engine, cartL, engine+"\ntrace 1\nregs\ntrace 4\nregs", engine+"\n"+
			"0000: BRK | a=00 x=00 y=00 s=00 p=20 take=3 jam=0 cycle=0\n"+afterBoot+"\n"+
			"C000: LDX #$05 | a=00 x=00 y=00 s=FD p=24 take=0 jam=0 cycle=7\nC002: DEX | a=00 x=05 y=00 s=FD p=24 take=0 jam=0 cycle=9\n"+
			"C003: BNE $C002 | a=00 x=04 y=00 s=FD p=24 take=0 jam=0 cycle=11\nC002: DEX | a=00 x=04 y=00 s=FD p=24 take=0 jam=0 cycle=14\n"+
			"pc=C003 a=00 x=03 y=00 s=FD p=24 take=0 jam=0 cycle=16\n")
	}
}

// 18.4: a trace across an IRQ: the entry is a line, with Take 1 and the PC at which it strikes.
func TestTraceInterrupt(t *testing.T) {
	image := built(t, `
start: lda #9
 sta $4018
 lda #0
 sta $4019
 lda #$83
 sta $401a
 cli
 nop
 nop
 nop
 jmp start
irq: pha
 lda $401b
 pla
 rti
nmi: rti
`)
	for _, engine := range engines {
		answers(t, "18.4: a trace across an IRQ, "+engine, image, engine+"\nrun 25\ntrace 11\nevents", engine+"\n"+lines(
			"ran 25",
			"C00F: CLI | a=83 x=00 y=00 s=FD p=A4 take=0 jam=0 cycle=25",
			"C010: NOP | a=83 x=00 y=00 s=FD p=A0 take=0 jam=0 cycle=27",
			"C011: NOP | a=83 x=00 y=00 s=FD p=A0 take=0 jam=0 cycle=29",
			"C012: NOP | a=83 x=00 y=00 s=FD p=A0 take=0 jam=0 cycle=31",
			"C013: JMP $C000 | a=83 x=00 y=00 s=FD p=A0 take=0 jam=0 cycle=33",
			"C000: LDA #$09 | a=83 x=00 y=00 s=FD p=A0 take=1 jam=0 cycle=36",
			"C016: PHA | a=83 x=00 y=00 s=FA p=A4 take=0 jam=0 cycle=43",
			"C017: LDA $401B | a=83 x=00 y=00 s=F9 p=A4 take=0 jam=0 cycle=46",
			"C01A: PLA | a=C0 x=00 y=00 s=F9 p=A4 take=0 jam=0 cycle=50",
			"C01B: RTI | a=83 x=00 y=00 s=FA p=A4 take=0 jam=0 cycle=54",
			"C000: LDA #$09 | a=83 x=00 y=00 s=FD p=A0 take=1 jam=0 cycle=60",
			"events 3",
			"RESET 0000 00 FFFC @0",
			"IRQ C000 A0 FFFE @36",
			"IRQ C000 A0 FFFE @60"))
	}
}

// 18.4: and across an NMI, which the raster asks for with its vertical blank.
func TestTraceNmi(t *testing.T) {
	image := built(t, "start: lda #$80\n sta $2000\n@on: jmp @on\nnmi: inc $10\n rti\nirq: rti\n")
	for _, engine := range engines {
		text := done(t, "18.4", image, engine+"\nrun 27380\ntrace 12\nevents\npeek $10 1")
		if !strings.Contains(text, "C005: JMP $C005 | a=80 x=00 y=00 s=FD p=A4 take=2 jam=0 cycle=27397\nC008: INC $10 | a=80 x=00 y=00 s=FA p=A4 take=0 jam=0 cycle=27404\n") ||
			!strings.HasSuffix(text, "events 2\nRESET 0000 00 FFFC @0\nNMI C005 A4 FFFA @27397\n0010: 01\n") {
			t.Errorf("18.4: a trace across an NMI, %s: %s", engine, text)
		}
	}
}

// 18.4: a trace across a DMA: each of its cycles is a line, at one PC.
func TestTraceDma(t *testing.T) {
	image := built(t, "start: lda #2\n sta $4014\n nop\n jmp start\nnmi:\nirq: rti\n")
	for _, engine := range engines {
		text := done(t, engine, image, engine+"\nrun 9\ntrace 1\ntrace 256\ntrace 256\ntrace 3\nregs")
		got := strings.Split(strings.TrimPrefix(text, engine+"\nran 9\n"), "\n")
		want := []string{"C002: STA $4014 | a=02 x=00 y=00 s=FD p=24 take=0 jam=0 cycle=9"}
		for i := range 513 { // the write is cycle 12, the halt cycle 13: 513 cycles
			want = append(want, fmt.Sprintf("C005: NOP | a=02 x=00 y=00 s=FD p=24 take=0 jam=0 cycle=%d", 13+i))
		}
		want = append(want, "C005: NOP | a=02 x=00 y=00 s=FD p=24 take=0 jam=0 cycle=526")
		for i, w := range want {
			if i < len(got) && got[i] != w {
				t.Fatalf("%s: line %d of a trace across a DMA: %q, want %q", engine, i, got[i], w)
			}
		}
		if len(got) != 1+256+256+3+2 {
			t.Errorf("%s: %d lines", engine, len(got))
		}
	}
}

// 18.4: a trace across a JAM: from then on cycles without an access.
func TestTraceJam(t *testing.T) {
	for _, engine := range engines {
		answers(t, engine, imageOf(0xe8, 0x02, 0x99, 0x99), engine+"\nrun 7\ntrace 4\nregs", engine+"\nran 7\n"+lines(
			"C000: INX | a=00 x=00 y=00 s=FD p=24 take=0 jam=0 cycle=7",
			"C001: JAM | a=00 x=01 y=00 s=FD p=24 take=0 jam=0 cycle=9",
			"C001: JAM | a=00 x=01 y=00 s=FD p=24 take=0 jam=1 cycle=10",
			"C001: JAM | a=00 x=01 y=00 s=FD p=24 take=0 jam=1 cycle=11",
			"pc=C001 a=00 x=01 y=00 s=FD p=24 take=0 jam=1 cycle=12"))
	}
}

// 18.4: a trace looks at memory as it is: code that a program writes, in RAM and work RAM, and what bus.Peek shows where devices lie.
func TestTraceLooksAtMemory(t *testing.T) {
	image := built(t, `
start: lda #$e8
 sta $07ff
 sta $6000
 lda #$4c
 sta $0000
 lda #$00
 sta $0001
 sta $6002
 lda #$60
 sta $0002
 lda #$4c
 sta $6001
 lda #$40
 sta $6003
 jmp $07ff
nmi:
irq: rti
`)
	for _, engine := range engines {
		text := done(t, engine, image, engine+"\nrun 7\ntrace 20\nlog")
		told, e, _ := toldPlay(image, engine+"\nrun 7\ntrace 20\nlog")
		if text != told || e != api.OK {
			t.Fatalf("%s: %q, want %q", engine, text, told)
		}
		for _, line := range []string{"\nC024: JMP $07FF |", "\n07FF: INX |", "\n0800: JMP $6000 |", "\n6000: INX |", "\n6001: JMP $4000 |", "\n4000: RTI | a=40"} {
			if !strings.Contains(text, line) {
				t.Errorf("%s: no line %q in %s", engine, line, short(text))
			}
		}
	}
}
