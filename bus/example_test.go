package bus_test

import (
	"testing"

	"tandem/api"
	"tandem/bus"
)

func TestExampleMemories(t *testing.T) {
	b := fresh(t, nrom())
	b.Write(0x0801, 7)
	reads(t, "P10.4", b, 0x1801, 7)
	reads(t, "P10.4: open bus", b, 0x4000, 7)
	reads(t, "P10.4", b, 0x8000, 0)
	reads(t, "P10.4", b, 0x80fb, 0)
	b.Write(0x6000, 9)
	if v, place, tag := b.Peek(0x6000), b.Place(0x6000), b.Tag(0x6000); v != 9 || place != 2048 || tag != api.TagWork {
		t.Errorf("P10.5, P10.14: $6000: %d, %d, %d", v, place, tag)
	}
	if b.Plain(0x2002, false) || b.Plain(0x8000, true) || !b.Plain(0x9000, false) {
		t.Error("P10.11: Plain")
	}
	if tag, place := b.Tag(0xc000), b.Place(0xc000); tag != 2 || place != 26624 {
		t.Errorf("P10.14: $C000: %d, %d", tag, place)
	}
}

func TestExampleLines(t *testing.T) {
	horizon(t, "of a new bus", fresh(t, nrom()), 29827)
	b := fresh(t, nrom())
	b.Write(0x2000, 0x80)
	horizon(t, "with the NMI", b, 27392)
	b.Idle(27393)
	polled(t, "P10.8", b, true, false)
	reads(t, "P10.4", b, 0x2002, 0x80)
	reads(t, "P10.4", b, 0x2002, 0x00)
}

// copying counts the steps of a DMA.
func copying(b *bus.Bus) int {
	n := 0
	for b.Dma() && n < 1000 {
		b.DmaStep(0xc000)
		n++
	}
	return n
}

func TestExampleDma(t *testing.T) {
	b := fresh(t, nrom())
	b.Write(0x4014, 2)
	if n := copying(b); n != 513 {
		t.Errorf("P10.10: begun in cycle 0: %d steps", n)
	}
	b = fresh(t, nrom())
	b.Idle(1)
	b.Write(0x4014, 2)
	if n := copying(b); n != 514 {
		t.Errorf("P10.10: begun in cycle 1: %d steps", n)
	}
}

func TestExamplePads(t *testing.T) {
	b := fresh(t, nrom())
	writes(b, 0x4016, 1, 0x4016, 0)
	b.Press(1, 0)
	reads(t, "P10.7", b, 0x4016, 0)
}
