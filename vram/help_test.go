package vram_test

import (
	"fmt"
	"math/rand"
	"testing"

	"tandem/api"
	"tandem/mapper"
	"tandem/vram"
)

const greatest = 1<<63 - 1

// The addresses that the chapter names, the borders of pages, and some of them once more behind $4000.
var edges = []uint16{
	0x0000, 0x0001, 0x03ff, 0x0400, 0x0fff, 0x1000, 0x1c00, 0x1fff,
	0x2000, 0x23ff, 0x2400, 0x27ff, 0x2800, 0x2bff, 0x2c00, 0x2eff, 0x2f00, 0x2fff,
	0x3000, 0x33ff, 0x3400, 0x37ff, 0x3800, 0x3bff, 0x3c00, 0x3eff,
	0x3f00, 0x3f01, 0x3f03, 0x3f04, 0x3f08, 0x3f0c, 0x3f0f, 0x3f10, 0x3f11, 0x3f13, 0x3f14, 0x3f15, 0x3f18, 0x3f19, 0x3f1c, 0x3f1d, 0x3f1f,
	0x3f20, 0x3f30, 0x3ff0, 0x3ffc, 0x3fff,
	0x4000, 0x5fff, 0x6000, 0x6fff, 0x7eff, 0x7f00, 0x7f10, 0x7fff, 0x8000, 0xbf14, 0xbfff, 0xc000, 0xffff,
}

// plainBoard is the examples' board: of kind 0 with CHR-RAM, and with that mirroring of the image.
func plainBoard(hard api.Mirror) api.Board {
	return api.Board{Hard: hard, Prg: 2, Chr: 8, ChrRam: true}
}

// romBoard is a board of kind 0 with CHR.
func romBoard(hard api.Mirror) api.Board {
	return api.Board{Hard: hard, Prg: 2, Chr: 8}
}

// boards has each mirroring, with and without CHR-RAM, and CHR banks that stand in many places.
var boards = []api.Board{
	plainBoard(api.Vertical), plainBoard(api.Horizontal), plainBoard(api.FourPages),
	romBoard(api.Vertical), romBoard(api.Horizontal), romBoard(api.FourPages),
	{Kind: api.MMC1, Prg: 4, Chr: 8, ChrRam: true, Shift: 0x10, Ctrl: 0x10, ChrA: 1, ChrB: 0, Last: -2},
	{Kind: api.MMC1, Prg: 4, Chr: 128, Shift: 0x10, Ctrl: 0x11, ChrA: 31, ChrB: 7, Last: -2},
	{Kind: api.MMC1, Prg: 4, Chr: 16, Shift: 0x10, Ctrl: 0x0e, ChrA: 3, Last: 9},
	{Kind: api.MMC1, Prg: 4, Chr: 8, ChrRam: true, Shift: 0x10, Ctrl: 0x0f, Last: -2},
	{Kind: api.UxROM, Prg: 8, Chr: 8, ChrRam: true, Latch: 255},
	{Kind: api.CNROM, Sub: 2, Hard: api.Vertical, Prg: 2, Chr: 32, Latch: 2},
	{Kind: api.MMC3, Prg: 8, Chr: 8, ChrRam: true, Sel: 0x80, R: [8]uint8{3, 7, 0, 0, 250, 4, 1, 2}, Guard: 0x80},
	{Kind: api.MMC3, Hard: api.Vertical, Prg: 8, Chr: 256, R: [8]uint8{255, 128, 17, 200, 3, 3, 1, 2}, Turn: 1},
	{Kind: api.AxROM, Prg: 4, Chr: 8, ChrRam: true, Latch: 0x10},
	{Kind: api.AxROM, Prg: 4, Chr: 8, Latch: 0x0f},
}

// differ tells the first field in which two memories are not the same.
func differ(got, want api.Video) string {
	for _, l := range []struct {
		name      string
		got, want []uint8
	}{
		{"Oam", got.Oam[:], want.Oam[:]}, {"Nt", got.Nt[:], want.Nt[:]},
		{"Pal", got.Pal[:], want.Pal[:]}, {"Chr", got.Chr[:], want.Chr[:]},
	} {
		for i := range l.got {
			if l.got[i] != l.want[i] {
				return fmt.Sprintf("%s[%#x] is %#x, want %#x", l.name, i, l.got[i], l.want[i])
			}
		}
	}
	for _, f := range []struct {
		name      string
		got, want any
	}{
		{"OamAt", got.OamAt, want.OamAt}, {"V", got.V, want.V}, {"T", got.T, want.T}, {"X", got.X, want.X}, {"W", got.W, want.W},
		{"Wide", got.Wide, want.Wide}, {"Grey", got.Grey, want.Grey}, {"Buf", got.Buf, want.Buf}, {"Io", got.Io, want.Io},
	} {
		if f.got != f.want {
			return fmt.Sprintf("%s is %#v, want %#v", f.name, f.got, f.want)
		}
	}
	return ""
}

// same holds two memories against each other.
func same(t *testing.T, what string, got, want api.Video) {
	t.Helper()
	if d := differ(got, want); d != "" || got != want {
		t.Errorf("%s: %s", what, d)
	}
}

// writes is pairs of a register and a value, written one behind the other.
func writes(v api.Video, b api.Board, l ...int) api.Video {
	for i := 0; i+1 < len(l); i += 2 {
		v = vram.Write(v, b, l[i], uint8(l[i+1]))
	}
	return v
}

// reads asks a register for values, one behind the other.
func reads(t *testing.T, what string, v api.Video, b api.Board, reg int, want ...uint8) api.Video {
	t.Helper()
	for i, w := range want {
		got, next := vram.Read(v, b, nil, reg, 0)
		if got != w {
			t.Errorf("%s: read number %d of register %d gives %#x, want %#x", what, i, reg, got, w)
		}
		v = next
	}
	return v
}

// some picks one of a list.
func some[T any](r *rand.Rand, l ...T) T { return l[r.Intn(len(l))] }

// anyByte is a byte.
func anyByte(r *rand.Rand) uint8 { return uint8(r.Intn(256)) }

// bytesOf is n bytes as they come, none of them 0.
func bytesOf(r *rand.Rand, n int) []uint8 {
	l := make([]uint8, n)
	for i := range l {
		l[i] = uint8(1 + r.Intn(255))
	}
	return l
}

// anyBoard is one of the boards, or one of them with other registers.
func anyBoard(r *rand.Rand) api.Board {
	b := boards[r.Intn(len(boards))]
	switch b.Kind {
	case api.MMC1:
		b.Ctrl, b.ChrA, b.ChrB = uint8(r.Intn(32)), uint8(r.Intn(32)), uint8(r.Intn(32))
	case api.CNROM, api.AxROM:
		b.Latch = anyByte(r)
	case api.MMC3:
		copy(b.R[:], bytesOf(r, 8))
		b.Sel, b.Turn = some(r, uint8(0), 0x80), uint8(r.Intn(2))
	}
	if r.Intn(4) == 0 {
		b.Hard = api.FourPages
	}
	return b
}

// anyValid is a memory that is valid with a board, full of bytes.
func anyValid(r *rand.Rand, b api.Board) api.Video {
	v := api.Video{
		OamAt: some(r, anyByte(r), 255, 254, 2), V: uint16(r.Intn(0x8000)), T: uint16(r.Intn(0x8000)), X: uint8(r.Intn(8)),
		W: r.Intn(2) == 0, Wide: r.Intn(2) == 0, Grey: r.Intn(2) == 0, Buf: anyByte(r), Io: anyByte(r),
	}
	if r.Intn(2) == 0 {
		v.V = edges[r.Intn(len(edges))] % 0x8000
	}
	copy(v.Oam[:], bytesOf(r, 256))
	for i := range 64 {
		v.Oam[4*i+2] = 0xe3 - v.Oam[4*i]&3
	}
	copy(v.Nt[:], bytesOf(r, 4096))
	for i := range v.Pal {
		v.Pal[i] = uint8(1 + r.Intn(63))
	}
	v.Pal[16], v.Pal[20], v.Pal[24], v.Pal[28] = 0, 0, 0, 0
	if b.ChrRam {
		copy(v.Chr[:], bytesOf(r, 8192))
	}
	return v
}

// anyChr is the CHR bytes that go with a board, none of them 0; sometimes there are too few, or more than the board has.
func anyChr(r *rand.Rand, b api.Board) []uint8 {
	n := 1024 * b.Chr
	return bytesOf(r, some(r, n, n, n-1, n/2, n/2+5, n+1024, 1, 0))
}

func TestBoardsAreValid(t *testing.T) {
	r := rand.New(rand.NewSource(800))
	seen := map[api.Mirror]int{}
	for _, b := range boards {
		seen[mapper.Mirror(b)]++
		if !mapper.Valid(b) {
			t.Errorf("%+v isn't valid", b)
		}
	}
	for m := api.Horizontal; m <= api.FourPages; m++ {
		if seen[m] == 0 {
			t.Errorf("no board with mirroring %d", m)
		}
	}
	for range 500 {
		if b := anyBoard(r); !mapper.Valid(b) {
			t.Fatalf("%+v isn't valid", b)
		}
	}
}
