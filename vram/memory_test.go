package vram_test

import (
	"math/rand"
	"testing"

	"tandem/api"
	"tandem/vram"
)

// peekIs asks for the byte at an address.
func peekIs(t *testing.T, what string, v api.Video, b api.Board, chr []byte, addr uint16, want uint8) {
	t.Helper()
	if got := vram.Peek(v, b, chr, addr); got != want {
		t.Errorf("P8.2: %s: Peek(%#x) = %#x, want %#x", what, addr, got, want)
	}
}

// TestTablesByHand: in which of the four pages a byte of each table lies, for each mirroring.
func TestTablesByHand(t *testing.T) {
	for _, row := range []struct {
		name  string
		board api.Board
		pages [4]int
	}{
		{"Horizontal", plainBoard(api.Horizontal), [4]int{0, 0, 1, 1}},
		{"Vertical", plainBoard(api.Vertical), [4]int{0, 1, 0, 1}},
		{"OneLow", api.Board{Kind: api.AxROM, Prg: 4, Chr: 8}, [4]int{0, 0, 0, 0}},
		{"OneHigh", api.Board{Kind: api.AxROM, Prg: 4, Chr: 8, Latch: 0x10}, [4]int{1, 1, 1, 1}},
		{"FourPages", romBoard(api.FourPages), [4]int{0, 1, 2, 3}},
	} {
		for quarter, page := range row.pages {
			for _, at := range []int{0, 1, 0x100, 0x2ff, 0x300, 0x3ff} {
				want := api.Video{}
				want.Nt[1024*page+at] = 0xd5
				addr := uint16(0x2000 + 1024*quarter + at)
				same(t, "P8.2: Poke, "+row.name, vram.Poke(api.Video{}, row.board, addr, 0xd5), want)
				peekIs(t, row.name, want, row.board, nil, addr, 0xd5)
				peekIs(t, row.name, want, row.board, nil, addr+0x4000, 0xd5)
				peekIs(t, row.name, want, row.board, nil, addr+0xc000, 0xd5)
				if addr < 0x2f00 {
					peekIs(t, row.name, want, row.board, nil, addr+0x1000, 0xd5)
					same(t, "P8.2: Poke once more, "+row.name, vram.Poke(api.Video{}, row.board, addr+0x1000, 0xd5), want)
				} else {
					peekIs(t, row.name, want, row.board, nil, addr+0x1000, 0)
				}
			}
		}
	}
}

// TestBordersByHand: the first and last byte of each memory.
func TestBordersByHand(t *testing.T) {
	b := plainBoard(api.Vertical)
	v := api.Video{}
	v.Chr[0], v.Chr[0x1fff] = 1, 2
	v.Nt[0], v.Nt[0x7ff], v.Nt[0x6ff], v.Nt[0x700] = 3, 4, 5, 6
	v.Pal[0], v.Pal[31] = 7, 8
	for _, row := range []struct {
		addr uint16
		want uint8
	}{
		{0x0000, 1}, {0x1fff, 2}, {0x2000, 3}, {0x2fff, 4}, {0x3000, 3}, {0x2eff, 5}, {0x3eff, 5}, {0x2f00, 6}, {0x3f00, 7}, {0x3f10, 7}, {0x3fff, 8},
		{0x4000, 1}, {0x5fff, 2}, {0x6000, 3}, {0x7eff, 5}, {0x7f00, 7}, {0x7fff, 8}, {0x8000, 1}, {0xbfff, 8}, {0xc000, 1}, {0xffff, 8},
	} {
		peekIs(t, "a border", v, b, nil, row.addr, row.want)
		w := vram.Poke(v, b, row.addr, 0x2a)
		peekIs(t, "a border, poked", w, b, nil, row.addr, 0x2a)
		same(t, "P8.2: Poke of what was there", vram.Poke(w, b, row.addr, row.want), v)
	}
}

// TestPaletteByHand: each address of the palette once, and what is one entry.
func TestPaletteByHand(t *testing.T) {
	b := romBoard(api.Horizontal)
	entries := []int{
		0, 1, 2, 3, 4, 5, 6, 7, 8, 9, 10, 11, 12, 13, 14, 15,
		0, 17, 18, 19, 4, 21, 22, 23, 8, 25, 26, 27, 12, 29, 30, 31,
	}
	for addr := 0x3f00; addr <= 0x3fff; addr++ {
		entry := entries[addr%32]
		want := api.Video{}
		want.Pal[entry] = 0x2d
		for _, val := range []uint8{0x2d, 0x6d, 0xad, 0xed} {
			same(t, "P8.2: Poke into the palette", vram.Poke(api.Video{}, b, uint16(addr), val), want)
			same(t, "P8.2: Poke into the palette behind $4000", vram.Poke(api.Video{}, b, uint16(addr+0x8000), val), want)
		}
		peekIs(t, "palette", want, b, nil, uint16(addr), 0x2d)
		want.Grey = true
		peekIs(t, "Grey doesn't touch Peek", want, b, nil, uint16(addr), 0x2d)
		same(t, "P8.2: Poke with Grey", vram.Poke(api.Video{Grey: true}, b, uint16(addr), 0xed), want)
	}
}

// TestChrRam: banks of CHR-RAM are read and written where the board says; the cartridge's CHR is not looked at.
func TestChrRam(t *testing.T) {
	chr := []byte{0xee, 0xee, 0xee, 0xee, 0xee, 0xee}
	// Slots 0 to 3 show bank 4 on, slots 4 to 7 bank 0 on.
	turned := api.Board{Kind: api.MMC1, Prg: 4, Chr: 8, ChrRam: true, Shift: 0x10, Ctrl: 0x10, ChrA: 1, ChrB: 0, Last: -2}
	for _, addr := range []uint16{0x0000, 0x0005, 0x03ff, 0x0400, 0x0fff, 0x1000, 0x1005, 0x1fff} {
		want := api.Video{}
		want.Chr[addr^0x1000] = 0xc3
		same(t, "P8.2: Poke into a bank of CHR-RAM", vram.Poke(api.Video{}, turned, addr, 0xc3), want)
		peekIs(t, "a bank of CHR-RAM", want, turned, chr, addr, 0xc3)
		peekIs(t, "another bank of CHR-RAM", want, turned, chr, addr^0x1000, 0)
		want = api.Video{}
		want.Chr[addr] = 0xc3
		same(t, "P8.2: Poke into CHR-RAM", vram.Poke(api.Video{}, plainBoard(0), addr, 0xc3), want)
		same(t, "P8.2: Poke into CHR-RAM from $4000 on", vram.Poke(api.Video{}, plainBoard(0), addr+0x4000, 0xc3), want)
		peekIs(t, "CHR-RAM", want, plainBoard(0), chr, addr, 0xc3)
		peekIs(t, "CHR-RAM, no CHR", want, plainBoard(0), nil, addr+0x8000, 0xc3)
	}
}

// TestChrRom: CHR of a cartridge, whole, shorter than the place (though there are bytes in its spare room) and none.
func TestChrRom(t *testing.T) {
	r := rand.New(rand.NewSource(820))
	chr := bytesOf(r, 3*8192)
	kept := string(chr)
	// Latch 2: the third 8 KiB.
	third := api.Board{Kind: api.CNROM, Prg: 2, Chr: 24, Latch: 2}
	for _, addr := range []uint16{0x0000, 0x0005, 0x03ff, 0x0400, 0x0fff, 0x1000, 0x1ffe, 0x1fff} {
		at := 2*8192 + int(addr)
		for _, base := range []uint16{0, 0x4000, 0x8000, 0xc000} {
			peekIs(t, "CHR", api.Video{}, third, chr, addr+base, chr[at])
			peekIs(t, "CHR that ends with the place", api.Video{}, third, chr[:at+1], addr+base, chr[at])
			peekIs(t, "CHR that ends ahead of the place", api.Video{}, third, chr[:at], addr+base, 0)
			peekIs(t, "CHR of 5 bytes", api.Video{}, third, chr[:5], addr+base, 0)
			peekIs(t, "no CHR", api.Video{}, third, nil, addr+base, 0)
			same(t, "P8.2: Poke into CHR", vram.Poke(api.Video{}, third, addr+base, 0x99), api.Video{})
		}
		peekIs(t, "CHR of one unit", api.Video{}, romBoard(0), chr, addr, chr[addr])
	}
	if string(chr) != kept {
		t.Error("P8.2: the CHR that was handed in is another")
	}
}

// TestPeekEverywhere goes through every address on every board.
func TestPeekEverywhere(t *testing.T) {
	r := rand.New(rand.NewSource(821))
	for _, b := range boards {
		v := anyValid(r, b)
		chr := bytesOf(r, 1024*b.Chr)
		want := open(v, b, chr)
		for addr := range 65536 {
			if got := vram.Peek(v, b, chr, uint16(addr)); got != want.get(addr) {
				t.Fatalf("P8.2: Peek(%#x) = %#x, want %#x: %+v", addr, got, want.get(addr), b)
			}
		}
	}
}

// TestPokeEverywhere: one byte is another behind it, all else stays.
func TestPokeEverywhere(t *testing.T) {
	r := rand.New(rand.NewSource(822))
	for _, b := range boards {
		v := anyValid(r, b)
		addrs := append([]uint16{}, edges...)
		for range 500 {
			addrs = append(addrs, uint16(r.Intn(65536)), uint16(0x3f00+r.Intn(256)))
		}
		for _, addr := range addrs {
			val := anyByte(r)
			want := open(v, b, nil)
			want.set(int(addr), val)
			same(t, "P8.2: Poke", vram.Poke(v, b, addr, val), want.shut())
		}
	}
}
