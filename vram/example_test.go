package vram_test

import (
	"testing"

	"tandem/api"
	"tandem/mapper"
	"tandem/vram"
)

// The chapter's examples, one by one.

// exampleBoard is the board of the examples, made of a cartridge.
func exampleBoard(t *testing.T, vert bool) api.Board {
	t.Helper()
	b, e := mapper.New(api.Cart{Vert: vert, Prg: make([]byte, api.PrgUnit)})
	if e != api.OK || !b.ChrRam || b.Kind != 0 {
		t.Fatalf("no board: %d", e)
	}
	return b
}

func TestExampleTables(t *testing.T) {
	b := exampleBoard(t, true)
	v := writes(api.Video{}, b, 6, 0x21, 6, 0x08, 7, 0x55, 7, 0x66)
	want := api.Video{V: 0x210a, T: 0x2108, Io: 0x66}
	want.Nt[0x108], want.Nt[0x109] = 0x55, 0x66
	same(t, "P8.4: example 1", v, want)
	v = writes(v, b, 6, 0x21, 6, 0x08)
	v = reads(t, "P8.3: example 2", v, b, 7, 0, 0x55, 0x66)
	w := writes(v, b, 6, 0x29, 6, 0x08)
	_, w = vram.Read(w, b, nil, 7, 0)
	reads(t, "P8.3: example 3, Vertical", w, b, 7, 0x55)
	h := exampleBoard(t, false)
	w = writes(v, h, 6, 0x29, 6, 0x08)
	_, w = vram.Read(w, h, nil, 7, 0)
	reads(t, "P8.3: example 3, Horizontal", w, h, 7, 0)
}

func TestExamplePalette(t *testing.T) {
	b := exampleBoard(t, true)
	v := writes(api.Video{}, b, 6, 0x3f, 6, 0x10, 7, 0xff)
	if v.Pal != [32]uint8{0x3f} {
		t.Errorf("P8.2: example 4: %x", v.Pal)
	}
	v.Nt[1024*1+0x300] = 0x77
	v = writes(v, b, 6, 0x3f, 6, 0x00)
	w := reads(t, "P8.3: example 4", v, b, 7, 0x3f)
	if w.Buf != 0x77 || vram.Peek(v, b, nil, 0x2f00) != 0x77 {
		t.Errorf("P8.3: example 4: Buf is %#x", w.Buf)
	}
	reads(t, "P8.3: example 5", writes(v, b, 1, 0xc1), b, 7, 0xf0)
}

func TestExamplePairs(t *testing.T) {
	b := exampleBoard(t, true)
	v := writes(api.Video{}, b, 0, 0x04, 6, 0x20, 6, 0x00, 7, 1, 7, 2, 7, 3)
	if v.Nt[0] != 1 || v.Nt[0x20] != 2 || v.Nt[0x40] != 3 {
		t.Errorf("P8.4: example 6: %x", v.Nt[:0x41])
	}
	got, v := vram.Read(writes(api.Video{}, b, 6, 0x12), b, nil, 2, 0x80)
	if got != 0x92 || v.W {
		t.Errorf("P8.3: example 7: %#x, W %t", got, v.W)
	}
	if v = writes(v, b, 6, 0x23, 6, 0x45); v.V != 0x2345 {
		t.Errorf("P8.4: example 7: V is %#x", v.V)
	}
	v = writes(api.Video{}, b, 5, 0x7d, 5, 0x5e)
	same(t, "P8.4: example 8", v, api.Video{X: 5, T: 0x616f, Io: 0x5e})
}

func TestExampleSprites(t *testing.T) {
	b := exampleBoard(t, true)
	v := writes(api.Video{}, b, 3, 0xfe, 4, 1, 4, 2, 4, 3)
	want := api.Video{OamAt: 1, Io: 3}
	// $FE is the third byte of the last sprite; 1 has no bit there that is lost.
	want.Oam[0xfe], want.Oam[0xff], want.Oam[0] = 1, 2, 3
	same(t, "P8.4: example 9", v, want)
	v = writes(v, b, 3, 0xff)
	v = reads(t, "P8.3: example 9", v, b, 4, 2, 2)
	if v.OamAt != 0xff {
		t.Errorf("P8.3: example 9: OamAt is %#x", v.OamAt)
	}
	v = writes(api.Video{}, b, 3, 0x02, 4, 0xff)
	if v.Oam != [256]uint8{2: 0xe3} {
		t.Errorf("P8.4: example 10: %x", v.Oam)
	}
}
