package vram_test

import (
	"math/rand"
	"testing"

	"tandem/api"
	"tandem/vram"
)

// readIs asks for Read's answer and the memory behind it.
func readIs(t *testing.T, what string, v api.Video, b api.Board, chr []byte, reg int, status, want uint8, behind api.Video) {
	t.Helper()
	got, w := vram.Read(v, b, chr, reg, status)
	if got != want {
		t.Errorf("P8.3: %s: register %d gives %#x, want %#x", what, reg, got, want)
	}
	same(t, "P8.3: "+what, w, behind)
}

// beyond is numbers that have the same lowest three bits as a register.
func beyond(reg int) []int {
	return []int{reg, reg + 8, reg + 16, 0x2000 + reg, 0x3ff8 + reg, 1<<62 + reg, greatest - 7 + reg, reg - 8, reg - 800, -greatest - 1 + reg}
}

// TestReadNone: what can't be read answers Io, and nothing changes.
func TestReadNone(t *testing.T) {
	r := rand.New(rand.NewSource(830))
	for _, reg := range []int{0, 1, 3, 5, 6} {
		for _, n := range beyond(reg) {
			for _, io := range []uint8{0, 0x5a, 0xa5, 0xff} {
				v := anyValid(r, boards[0])
				v.Io = io
				readIs(t, "what can't be read", v, boards[0], nil, n, anyByte(r), io, v)
			}
		}
	}
}

func TestReadStatus(t *testing.T) {
	r := rand.New(rand.NewSource(831))
	b := boards[0]
	for _, row := range []struct{ status, io, want uint8 }{
		{0x00, 0x00, 0x00}, {0x80, 0x12, 0x92}, {0xff, 0x00, 0xe0}, {0x00, 0xff, 0x1f}, {0x1f, 0x00, 0x00}, {0x00, 0xe0, 0x00},
		{0x40, 0x15, 0x55}, {0x20, 0x0a, 0x2a}, {0xbf, 0x51, 0xb1}, {0x60, 0x80, 0x60}, {0xff, 0xff, 0xff},
	} {
		for _, w := range []bool{false, true} {
			for _, n := range beyond(2) {
				v := anyValid(r, b)
				v.Io, v.W = row.io, w
				behind := v
				behind.Io, behind.W = row.want, false
				readIs(t, "the status register", v, b, nil, n, row.status, row.want, behind)
			}
		}
	}
}

func TestReadOam(t *testing.T) {
	r := rand.New(rand.NewSource(832))
	b := boards[0]
	v := anyValid(r, b)
	for at := range 256 {
		v.OamAt = uint8(at)
		behind := v
		behind.Io = v.Oam[at]
		for _, n := range beyond(4) {
			readIs(t, "the list", v, b, nil, n, 0xff, v.Oam[at], behind)
		}
		readIs(t, "the list, once more", behind, b, nil, 4, 0, v.Oam[at], behind)
	}
}

// TestReadDataByHand: the buffer, and which byte comes into it; how V goes on.
func TestReadDataByHand(t *testing.T) {
	b := plainBoard(api.Vertical)
	v := api.Video{Buf: 0xb7, Io: 0x9f}
	v.Chr[0], v.Chr[0x1fff] = 0x11, 0x12
	v.Nt[0], v.Nt[0x3ff], v.Nt[0x6ff], v.Nt[0x700], v.Nt[0x710], v.Nt[0x714], v.Nt[0x71c], v.Nt[0x7ff] = 0x21, 0x22, 0x23, 0x24, 0x25, 0x26, 0x27, 0x28
	v.Pal[0], v.Pal[4], v.Pal[12], v.Pal[31] = 0x31, 0x32, 0x2d, 0x0e
	for _, row := range []struct {
		at              uint16
		want, grey, buf uint8
		next, wide      uint16
	}{
		{0x0000, 0xb7, 0xb7, 0x11, 0x0001, 0x0020},
		{0x1fff, 0xb7, 0xb7, 0x12, 0x2000, 0x201f},
		{0x2000, 0xb7, 0xb7, 0x21, 0x2001, 0x2020},
		{0x23ff, 0xb7, 0xb7, 0x22, 0x2400, 0x241f},
		{0x2fff, 0xb7, 0xb7, 0x28, 0x3000, 0x301f},
		{0x3000, 0xb7, 0xb7, 0x21, 0x3001, 0x3020},
		{0x3eff, 0xb7, 0xb7, 0x23, 0x3f00, 0x3f1f},
		{0x3f00, 0xb1, 0xb0, 0x24, 0x3f01, 0x3f20},
		{0x3f10, 0xb1, 0xb0, 0x25, 0x3f11, 0x3f30},
		{0x3f14, 0xb2, 0xb0, 0x26, 0x3f15, 0x3f34},
		{0x3f1c, 0xad, 0xa0, 0x27, 0x3f1d, 0x3f3c},
		{0x3fff, 0x8e, 0x80, 0x28, 0x4000, 0x401f},
		{0x4000, 0xb7, 0xb7, 0x11, 0x4001, 0x4020},
		{0x6000, 0xb7, 0xb7, 0x21, 0x6001, 0x6020},
		{0x7eff, 0xb7, 0xb7, 0x23, 0x7f00, 0x7f1f},
		{0x7f00, 0xb1, 0xb0, 0x24, 0x7f01, 0x7f20},
		{0x7fdf, 0x8e, 0x80, 0x00, 0x7fe0, 0x7fff},
		{0x7fe0, 0xb1, 0xb0, 0x00, 0x7fe1, 0x0000},
		{0x7fff, 0x8e, 0x80, 0x28, 0x0000, 0x001f},
	} {
		for _, n := range beyond(7) {
			v := v
			v.V = row.at
			behind := v
			behind.Buf, behind.V, behind.Io = row.buf, row.next, row.want
			readIs(t, "the data", v, b, nil, n, 0xff, row.want, behind)
			v.Wide, v.Grey = true, true
			behind = v
			behind.Buf, behind.V, behind.Io = row.buf, row.wide, row.grey
			readIs(t, "the data, wide and grey", v, b, nil, n, 0, row.grey, behind)
		}
	}
}

// TestReadPalette: each colour with each upper two bits of Io, grey and not.
func TestReadPalette(t *testing.T) {
	b := romBoard(api.Horizontal)
	for colour := range 64 {
		for _, io := range []uint8{0x00, 0x3f, 0x40, 0x7f, 0x80, 0xbf, 0xc0, 0xff} {
			v := api.Video{V: 0x3f03, Io: io, Buf: 0x77}
			v.Pal[3], v.Nt[0x703] = uint8(colour), 0xcd
			behind := v
			behind.V, behind.Buf, behind.Io = 0x3f04, 0xcd, io&0xc0|uint8(colour)
			readIs(t, "a colour", v, b, nil, 7, 0, behind.Io, behind)
			v.Grey, behind.Grey = true, true
			behind.Io = io&0xc0 | uint8(colour)&0x30
			readIs(t, "a grey colour", v, b, nil, 7, 0, behind.Io, behind)
		}
	}
}

// TestReadChr: the buffer takes the cartridge's CHR, and 0 where that is too short.
func TestReadChr(t *testing.T) {
	r := rand.New(rand.NewSource(833))
	chr := bytesOf(r, 8192)
	kept := string(chr)
	for _, at := range []uint16{0, 5, 0x0fff, 0x1fff, 0x4000, 0x5fff} {
		place := int(at % 0x4000)
		for _, n := range []int{8192, place + 1, place, 0} {
			v := api.Video{V: at, Buf: 3}
			behind := api.Video{V: at + 1, Io: 3}
			if n > place {
				behind.Buf = chr[place]
			}
			readIs(t, "CHR through the buffer", v, romBoard(0), chr[:n], 7, 0, 3, behind)
			behind.Buf = 0
			readIs(t, "CHR-RAM through the buffer", v, plainBoard(0), chr[:n], 7, 0, 3, behind)
		}
	}
	if string(chr) != kept {
		t.Error("P8.3: the CHR that was handed in is another")
	}
}

// TestReadAny holds every register against the chapter's words.
func TestReadAny(t *testing.T) {
	r := rand.New(rand.NewSource(834))
	for range 20000 {
		b := anyBoard(r)
		v, chr := anyValid(r, b), []byte{1, 2, 3}
		if r.Intn(10) == 0 {
			chr = anyChr(r, b)
		}
		reg, status := int(r.Uint64()), anyByte(r)
		x := open(v, b, chr)
		want := x.read(int(uint(reg)%8), status)
		readIs(t, "any memory", v, b, chr, reg, status, want, x.shut())
		if t.Failed() {
			t.Fatalf("of register %d at V %#x, Io %#x, %+v", reg, v.V, v.Io, b)
		}
	}
}
