package vram_test

import (
	"math/rand"
	"testing"

	"tandem/api"
	"tandem/mapper"
	"tandem/vram"
)

// refuse asks that nothing is done with a memory on a board. What Fill does, which has no board, its caller asks.
func refuse(t *testing.T, what string, v api.Video, b api.Board) {
	t.Helper()
	chr := bytesOf(rand.New(rand.NewSource(1)), 8192)
	if vram.Valid(v, b) {
		t.Errorf("P8.1: %s is told to be valid", what)
	}
	for reg := -1; reg <= 8; reg++ {
		got, w := vram.Read(v, b, chr, reg, 0xff)
		if got != 0 {
			t.Errorf("P8.1: %s: Read of %d gives %#x", what, reg, got)
		}
		same(t, "P8.1: Read of "+what, w, v)
		same(t, "P8.1: Write of "+what, vram.Write(v, b, reg, 0xa7), v)
	}
	for _, addr := range edges {
		if got := vram.Peek(v, b, chr, addr); got != 0 {
			t.Errorf("P8.1: %s: Peek(%#x) = %#x", what, addr, got)
		}
		same(t, "P8.1: Poke of "+what, vram.Poke(v, b, addr, 0xa7), v)
	}
	for _, n := range []int{-1, 0, 1, 16384, 16385} {
		if l := vram.Span(v, b, chr, 0x2000, n); len(l) != 0 {
			t.Errorf("P8.1: %s: Span of %d bytes answers %d", what, n, len(l))
		}
	}
}

// refuseFill asks that Fill does nothing with a memory.
func refuseFill(t *testing.T, what string, v api.Video) {
	t.Helper()
	for _, from := range [][]byte{nil, {}, {0xa7}, make([]byte, 256), make([]byte, 257)} {
		same(t, "P8.1: Fill of "+what, vram.Fill(v, from), v)
	}
}

// spoilt is memories of which one field may not be.
var spoilt = []struct {
	name string
	do   func(v *api.Video)
}{
	{"V $8000", func(v *api.Video) { v.V = 0x8000 }},
	{"V $A108", func(v *api.Video) { v.V = 0xa108 }},
	{"V $FFFF", func(v *api.Video) { v.V = 0xffff }},
	{"T $8000", func(v *api.Video) { v.T = 0x8000 }},
	{"T $FFFF", func(v *api.Video) { v.T = 0xffff }},
	{"X 8", func(v *api.Video) { v.X = 8 }},
	{"X 128", func(v *api.Video) { v.X = 128 }},
	{"X 255", func(v *api.Video) { v.X = 255 }},
	{"Oam[2] $04", func(v *api.Video) { v.Oam[2] = 0x04 }},
	{"Oam[2] $08", func(v *api.Video) { v.Oam[2] = 0x08 }},
	{"Oam[2] $10", func(v *api.Video) { v.Oam[2] = 0x10 }},
	{"Oam[6] $FF", func(v *api.Video) { v.Oam[6] = 0xff }},
	{"Oam[126] $10", func(v *api.Video) { v.Oam[126] = 0x10 }},
	{"Oam[254] $04", func(v *api.Video) { v.Oam[254] = 0x04 }},
	{"Pal[0] 64", func(v *api.Video) { v.Pal[0] = 64 }},
	{"Pal[13] 128", func(v *api.Video) { v.Pal[13] = 128 }},
	{"Pal[31] 64", func(v *api.Video) { v.Pal[31] = 64 }},
	{"Pal[31] 255", func(v *api.Video) { v.Pal[31] = 255 }},
	{"Pal[16] 1", func(v *api.Video) { v.Pal[16] = 1 }},
	{"Pal[20] 63", func(v *api.Video) { v.Pal[20] = 63 }},
	{"Pal[24] 32", func(v *api.Video) { v.Pal[24] = 32 }},
	{"Pal[28] 2", func(v *api.Video) { v.Pal[28] = 2 }},
	{"Pal[16] 64", func(v *api.Video) { v.Pal[16] = 64 }},
}

func TestSpoilt(t *testing.T) {
	r := rand.New(rand.NewSource(810))
	for _, b := range []api.Board{plainBoard(api.Vertical), romBoard(api.Horizontal)} {
		for _, row := range spoilt {
			full := anyValid(r, b)
			row.do(&full)
			refuse(t, row.name, full, b)
			refuseFill(t, row.name, full)
			bare := api.Video{}
			row.do(&bare)
			refuse(t, row.name, bare, b)
			refuseFill(t, row.name, bare)
		}
	}
}

// TestSpoiltEach goes through every place of Oam and of Pal with every byte.
func TestSpoiltEach(t *testing.T) {
	b := plainBoard(api.Horizontal)
	for at := range 256 {
		for val := range 256 {
			v := api.Video{}
			v.Oam[at] = uint8(val)
			if want := at%4 != 2 || val/4%8 == 0; vram.Valid(v, b) != want {
				t.Fatalf("P8.1: Oam[%d] = %#x: valid %t", at, val, !want)
			}
		}
	}
	for at := range 32 {
		for val := range 256 {
			v := api.Video{}
			v.Pal[at] = uint8(val)
			if want := val == 0 || val < 64 && (at < 16 || at%4 != 0); vram.Valid(v, b) != want {
				t.Fatalf("P8.1: Pal[%d] = %#x: valid %t", at, val, !want)
			}
		}
	}
}

// TestChrOfOthers: where the board has no CHR-RAM, a memory that has bytes there is not valid; Fill doesn't look at it.
func TestChrOfOthers(t *testing.T) {
	r := rand.New(rand.NewSource(811))
	for _, b := range boards {
		for _, at := range []int{0, 1, 1023, 4096, 8190, 8191} {
			v := anyValid(r, b)
			v.Chr[at] = 0x80
			if vram.Valid(v, b) != b.ChrRam {
				t.Errorf("P8.1: Chr[%d] of %+v: valid %t", at, b, !b.ChrRam)
			}
			if b.ChrRam {
				continue
			}
			refuse(t, "CHR-RAM on a board that has none", v, b)
			want := open(v, b, nil)
			want.write(4, 0xa7)
			same(t, "P8.1: Fill doesn't look at Chr", vram.Fill(v, []byte{0xa7}), want.shut())
		}
	}
}

// TestBoardsSpoilt: a board that isn't valid.
func TestBoardsSpoilt(t *testing.T) {
	r := rand.New(rand.NewSource(812))
	for _, row := range []struct {
		name string
		do   func(b *api.Board)
	}{
		{"no board at all", func(b *api.Board) { *b = api.Board{} }},
		{"Kind 5", func(b *api.Board) { b.Kind = 5 }},
		{"Kind -1", func(b *api.Board) { b.Kind = -1 }},
		{"Sub 1", func(b *api.Board) { b.Sub = 1 }},
		{"Hard OneLow", func(b *api.Board) { b.Hard = api.OneLow }},
		{"Hard 255", func(b *api.Board) { b.Hard = 255 }},
		{"Prg 3", func(b *api.Board) { b.Prg = 3 }},
		{"Prg 0", func(b *api.Board) { b.Prg = 0 }},
		{"Chr 0", func(b *api.Board) { b.Chr = 0 }},
		{"Chr 9", func(b *api.Board) { b.Chr = 9 }},
		{"Chr -8", func(b *api.Board) { b.Chr = -8 }},
		{"Chr 520", func(b *api.Board) { b.Chr = 520 }},
		{"Chr 16 with CHR-RAM", func(b *api.Board) { b.Chr, b.ChrRam = 16, true }},
		{"Latch of kind 0", func(b *api.Board) { b.Latch = 1 }},
		{"Epoch -1", func(b *api.Board) { b.Epoch = -1 }},
	} {
		for _, b := range []api.Board{plainBoard(api.Vertical), romBoard(api.FourPages)} {
			v := anyValid(r, b)
			row.do(&b)
			refuse(t, row.name, v, b)
			want := open(v, b, nil)
			want.write(4, 0xa7)
			same(t, "P8.1: Fill has no board", vram.Fill(v, []byte{0xa7}), want.shut())
		}
	}
}

func TestValidEdges(t *testing.T) {
	for _, b := range boards {
		if !vram.Valid(api.Video{}, b) {
			t.Errorf("P8.1: a new memory isn't valid with %+v", b)
		}
		v := api.Video{OamAt: 255, V: 0x7fff, T: 0x7fff, X: 7, W: true, Wide: true, Grey: true, Buf: 255, Io: 255}
		for i := range v.Oam {
			v.Oam[i] = 255
			if i%4 == 2 {
				v.Oam[i] = 0xe3
			}
		}
		for i := range v.Nt {
			v.Nt[i] = 255
		}
		for i := range v.Pal {
			if i < 16 || i%4 != 0 {
				v.Pal[i] = 63
			}
		}
		if !vram.Valid(v, b) {
			t.Errorf("P8.1: the fullest memory isn't valid with %+v", b)
		}
		for i := range v.Chr {
			v.Chr[i] = 255
		}
		if vram.Valid(v, b) != b.ChrRam {
			t.Errorf("P8.1: the fullest CHR-RAM with %+v: valid %t", b, !b.ChrRam)
		}
	}
}

// TestStaysValid does anything with a new memory, for long; every call ends.
func TestStaysValid(t *testing.T) {
	r := rand.New(rand.NewSource(813))
	for range 50 {
		b := anyBoard(r)
		chr := anyChr(r, b)
		v := api.Video{}
		for range 500 {
			switch r.Intn(5) {
			case 0:
				_, v = vram.Read(v, b, chr, int(r.Uint64()), anyByte(r))
			case 1, 2:
				v = vram.Write(v, b, int(r.Uint64()), anyByte(r))
			case 3:
				v = vram.Poke(v, b, uint16(r.Intn(65536)), anyByte(r))
			case 4:
				v = vram.Fill(v, bytesOf(r, r.Intn(300)))
			}
			if !vram.Valid(v, b) {
				t.Fatalf("P8.1: of a valid memory came one that isn't: %+v", b)
			}
		}
	}
}

// TestNothingPanics gives every call what may not be.
func TestNothingPanics(t *testing.T) {
	r := rand.New(rand.NewSource(814))
	for range 3000 {
		b := anyBoard(r)
		v := anyValid(r, b)
		switch r.Intn(4) {
		case 0:
			b.Chr, b.Kind, b.Sub = int(r.Uint64()), r.Intn(9)-1, r.Intn(7)-1
		case 1:
			b.Prg, b.Hard, b.ChrRam = r.Intn(200)-50, api.Mirror(r.Intn(256)), !b.ChrRam
		case 2:
			copy(v.Oam[:], bytesOf(r, 256))
			copy(v.Pal[:], bytesOf(r, 32))
		case 3:
			v.V, v.T, v.X = uint16(r.Intn(65536)), uint16(r.Intn(65536)), anyByte(r)
		}
		chr := some(r, nil, []byte{}, bytesOf(r, r.Intn(10000)))
		reg, addr, n := int(r.Uint64()), uint16(r.Intn(65536)), some(r, int(r.Uint64()), r.Intn(16500), -greatest-1, greatest)
		valid := vram.Valid(v, b)
		if valid && !mapper.Valid(b) {
			t.Fatalf("P8.1: valid with %+v", b)
		}
		vram.Read(v, b, chr, reg, anyByte(r))
		vram.Write(v, b, reg, anyByte(r))
		vram.Peek(v, b, chr, addr)
		vram.Poke(v, b, addr, anyByte(r))
		vram.Fill(v, chr)
		if l := vram.Span(v, b, chr, addr, n); len(l) > 0 && (!valid || len(l) != n) {
			t.Fatalf("P8.2: Span of %d answers %d bytes, valid %t", n, len(l), valid)
		}
	}
}
