package dbt_test

import (
	"testing"

	"tandem/api"
)

// handled is a cartridge with handlers: $9000 (NMI) counts in $10, $A000 (IRQ) in $11 and makes the timer silent.
func handled(code ...uint8) api.Cart {
	c := console(code...)
	copy(c.Prg[0x1000:], []uint8{0xe6, 0x10, 0x40})                   // INC $10, RTI
	copy(c.Prg[0x2000:], []uint8{0x2c, 0x1b, 0x40, 0xe6, 0x11, 0x40}) // BIT $401B, INC $11, RTI
	return c
}

// mixed is a loop of blocks, guards and instructions that no block has.
var mixed = []uint8{
	0xe8,             // INX
	0xfe, 0x80, 0x02, // INC $0280,X
	0xbd, 0xff, 0x02, // LDA $02FF,X
	0x58,       // CLI
	0x08,       // PHP
	0x68,       // PLA
	0x95, 0x40, // STA $40,X
	0x78,             // SEI
	0x20, 0x20, 0x80, // JSR $8020
	0xad, 0x02, 0x20, // LDA $2002
	0x4c, 0x00, 0x80, // JMP $8000
}

// mixedCart has mixed, and at $8020 CLI, INY, RTS.
func mixedCart() api.Cart {
	c := handled(mixed...)
	copy(c.Prg[0x20:], []uint8{0x58, 0xc8, 0x60})
	return c
}

// An NMI and an IRQ in each of the cycles to come, ahead of, within and behind blocks.
func TestInterrupts(t *testing.T) {
	c := mixedCart()
	nmis, irqs := 0, 0
	for k := range 90 {
		for name, turn := range map[string]func(s *api.State){
			"an NMI":       func(s *api.State) { nmiIn(s, k) },
			"an IRQ":       func(s *api.State) { irqIn(s, k) },
			"an IRQ, I=0":  func(s *api.State) { irqIn(s, k); s.Cpu.Regs.P = 0x20 },
			"both":         func(s *api.State) { nmiIn(s, k); irqIn(s, 88-k/2) },
			"both at once": func(s *api.State) { nmiIn(s, k); irqIn(s, k) },
		} {
			g := beside(t, c, standing(t, c, turn), 64, 8)
			for range 35 {
				g.pass("P15.7: "+name, []int{1000, 9, 20}[k%3])
			}
			r := g.m.State().Mem.Ram
			nmis, irqs = nmis+int(r[0x10]), irqs+int(r[0x11])
		}
	}
	if nmis != 270 || irqs < 300 {
		t.Errorf("%d NMIs and %d IRQs: too few to tell", nmis, irqs)
	}
}

// BRKs among blocks, with an NMI near that takes their vector.
func TestBreaks(t *testing.T) {
	c := handled(0xe8, 0x00, 0xea, 0xc8, 0x4c, 0x00, 0x80) // INX, BRK, INY, JMP $8000
	hijacked := 0
	for k := range 40 {
		g := beside(t, c, standing(t, c, func(s *api.State) { nmiIn(s, k) }), 64, 8)
		x := from(t, c, g.m.State(), 64, 8)
		for range 12 {
			g.pass("P15.7: BRKs", 1000)
			x.Pass(1000)
		}
		for _, e := range x.Events() {
			if e.Kind == api.EventBrk && e.Vector == 0xfffa {
				hijacked++
			}
		}
	}
	if hijacked < 3 {
		t.Errorf("%d BRKs with the NMI's vector: too few to tell", hijacked)
	}
}

// DMA behind a block and ahead of one, with an NMI and an IRQ in it, and blocks hit behind it.
func TestDma(t *testing.T) {
	c := handled(0xa9, 0x03, 0xe8, 0x8e, 0x14, 0x40, 0xc8, 0xc8, 0x4c, 0x00, 0x80) // LDA #3, INX, STX $4014, INY, INY, JMP $8000
	for k := range 24 {
		g := beside(t, c, standing(t, c, func(s *api.State) { nmiIn(s, 47*k); irqIn(s, 31*k); s.Cpu.Regs.P = 0x20 }), 64, 8)
		done := 0
		for done < 1300 {
			done += g.pass("P15.7: DMA", 1000)
		}
		for range 40 { // each cycle of it is a pass
			was := g.m.Stats()
			dma := g.y.Bus().Dma()
			n := g.pass("P15.7: DMA", 1000)
			if dma && (n != 1 || g.m.Stats().Steps != was.Steps+1 || g.m.Stats().Blocks != was.Blocks) {
				t.Fatalf("P15.2: a cycle of DMA: %d cycles, %+v and then %+v", n, was, g.m.Stats())
			}
		}
		g.holds("P15.7: DMA")
	}
}

// A JAM behind a block, in its middle, and as its first instruction; the button wakes it.
func TestJam(t *testing.T) {
	for at := range 4 {
		code := []uint8{0xe8, 0xe8, 0xe8, 0xe8}
		code[at] = 0x12
		c := handled(code...)
		g := powered(t, c, 64, 8)
		for range 20 {
			g.pass("P15.7: a JAM", 1000)
		}
		if !g.y.Cpu().Jam {
			t.Fatal("no JAM")
		}
		if n := g.pass("P15.2: a jammed CPU", 1000); n != 1 {
			t.Errorf("P15.2: a jammed CPU: %d cycles", n)
		}
		g.play("P15.3: a jammed CPU", api.Turn{Budget: 40000}) // frames go by
		g.reset("P15.4: a jammed CPU")
		for range 5 {
			g.pass("P15.7: behind the button", 1000)
		}
		g.holds("P15.7: a JAM")
	}
}
