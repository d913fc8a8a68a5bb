package mapper_test

import (
	"math"
	"testing"

	"tandem/api"
	"tandem/mapper"
)

// outside are windows and slots that there are not.
var outside = []int{-1, -2, 8, 9, 256, 1 << 32, math.MinInt, math.MaxInt}

func TestOutside(t *testing.T) {
	for _, kind := range kinds {
		b := boardOf(t, kind, 0, 4, 2)
		for _, n := range append([]int{4, 5, 6, 7}, outside...) {
			if got := mapper.Bank(b, n); got != -1 {
				t.Errorf("P2.3: kind %d: Bank(%d) = %d", kind, n, got)
			}
		}
		for _, n := range outside {
			if got := mapper.ChrBank(b, n); got != -1 {
				t.Errorf("P2.3: kind %d: ChrBank(%d) = %d", kind, n, got)
			}
		}
	}
}

// TestPlaces holds PrgAt and ChrAt against the banks at every address.
func TestPlaces(t *testing.T) {
	for _, kind := range kinds {
		b := boardOf(t, kind, 0, 5, 3)
		switch kind {
		case 1:
			b.Ctrl, b.ChrA, b.ChrB, b.PrgR = 0x1c, 3, 5, 2
		case 4:
			b.R, b.Sel = [8]uint8{3, 9, 11, 22, 7, 30, 5, 8}, 0xc0
		case 0:
		default:
			b.Latch = 0x13
		}
		for addr := range 0x10000 {
			prg, chr := -1, -1
			if addr >= 0x8000 {
				prg = mapper.Bank(b, addr/8192-4)*8192 + addr%8192
			}
			if addr < 0x2000 {
				chr = mapper.ChrBank(b, addr/1024)*1024 + addr%1024
			}
			if got := mapper.PrgAt(b, uint16(addr)); got != prg {
				t.Fatalf("P2.3: kind %d: PrgAt(%#x) = %d, want %d", kind, addr, got, prg)
			}
			if got := mapper.ChrAt(b, uint16(addr)); got != chr {
				t.Fatalf("P2.3: kind %d: ChrAt(%#x) = %d, want %d", kind, addr, got, chr)
			}
		}
	}
}

func TestBankStanding(t *testing.T) {
	for _, ks := range [][2]int{{0, 0}, {3, 0}, {3, 1}, {3, 2}, {1, 5}} {
		for _, row := range []struct {
			prg   int
			banks []int
		}{{1, []int{0, 1, 0, 1}}, {2, []int{0, 1, 2, 3}}, {3, []int{0, 1, 2, 3}}, {64, []int{0, 1, 2, 3}}} {
			b := boardOf(t, ks[0], ks[1], row.prg, 4)
			wantBanks(t, "PRG that stands", b, row.banks...)
			if ks[0] == 1 {
				b.Ctrl, b.PrgR, b.ChrA = 0x08, 0x0f, 0x1f
			} else if ks[0] == 3 {
				b.Latch = 0xff
			}
			wantBanks(t, "PRG that stands", b, row.banks...)
		}
	}
}

func TestBankMMC1(t *testing.T) {
	for _, row := range []struct {
		prg              int
		ctrl, prgR, chrA uint8
		banks            []int
	}{
		{16, 0x00, 5, 0, []int{8, 9, 10, 11}}, {16, 0x04, 5, 0, []int{8, 9, 10, 11}}, {16, 0x04, 0x14, 0x1f, []int{8, 9, 10, 11}},
		{16, 0x08, 5, 0, []int{0, 1, 10, 11}}, {16, 0x0c, 5, 0x10, []int{10, 11, 30, 31}}, {16, 0x0f, 0x15, 0, []int{10, 11, 30, 31}},
		{1, 0x0c, 3, 0, []int{0, 1, 0, 1}}, {1, 0x00, 3, 0, []int{0, 1, 0, 1}}, {3, 0x08, 4, 0, []int{0, 1, 2, 3}}, {3, 0x0c, 4, 0, []int{2, 3, 4, 5}},
		{17, 0x0c, 1, 0, []int{2, 3, 30, 31}}, {17, 0x0c, 1, 0x10, []int{0, 1, 28, 29}}, {17, 0x08, 1, 0x10, []int{32, 33, 0, 1}},
		{32, 0x08, 3, 0x10, []int{32, 33, 38, 39}}, {32, 0x00, 3, 0x10, []int{36, 37, 38, 39}}, {32, 0x0c, 3, 0x0f, []int{6, 7, 30, 31}},
		{64, 0x0c, 15, 0x10, []int{62, 63, 62, 63}}, {64, 0x0c, 15, 0, []int{30, 31, 30, 31}},
	} {
		b := boardOf(t, 1, 0, row.prg, 1)
		b.Ctrl, b.PrgR, b.ChrA = row.ctrl, row.prgR, row.chrA
		wantBanks(t, "MMC1", b, row.banks...)
	}
}

func TestBankLatched(t *testing.T) {
	for _, row := range []struct {
		kind, prg int
		latch     uint8
		banks     []int
	}{
		{2, 4, 1, []int{2, 3, 6, 7}}, {2, 4, 255, []int{6, 7, 6, 7}}, {2, 3, 255, []int{0, 1, 4, 5}}, {2, 64, 255, []int{126, 127, 126, 127}}, {2, 1, 9, []int{0, 1, 0, 1}},
		{7, 16, 3, []int{12, 13, 14, 15}}, {7, 64, 0x1f, []int{60, 61, 62, 63}}, {7, 64, 0xe1, []int{4, 5, 6, 7}}, {7, 1, 5, []int{0, 1, 0, 1}}, {7, 3, 1, []int{4, 5, 0, 1}},
	} {
		b := boardOf(t, row.kind, 0, row.prg, 1)
		b.Latch = row.latch
		wantBanks(t, "a latch", b, row.banks...)
	}
}

func TestBankMMC3(t *testing.T) {
	for _, row := range []struct {
		prg         int
		sel, r6, r7 uint8
		banks       []int
	}{
		{32, 0, 9, 12, []int{9, 12, 62, 63}}, {32, 0x47, 9, 12, []int{62, 12, 9, 63}}, {32, 0x87, 0xff, 0x40, []int{63, 0, 62, 63}},
		{64, 0, 0xff, 0x7f, []int{63, 63, 126, 127}}, {64, 0xc0, 0x80, 0x41, []int{126, 1, 0, 127}}, {3, 0x40, 7, 8, []int{4, 2, 1, 5}}, {1, 0, 3, 2, []int{1, 0, 0, 1}},
	} {
		b := boardOf(t, 4, 0, row.prg, 1)
		b.Sel, b.R[6], b.R[7] = row.sel, row.r6, row.r7
		wantBanks(t, "MMC3", b, row.banks...)
	}
}

func TestChrBank(t *testing.T) {
	for _, kind := range []int{0, 2, 7} {
		b := boardOf(t, kind, 0, 4, 4)
		if kind != 0 {
			b.Latch = 0xff
		}
		wantChr(t, "CHR that stands", b, 0, 1, 2, 3, 4, 5, 6, 7)
	}
	b := boardOf(t, 3, 0, 1, 3)
	b.Latch = 4
	wantChr(t, "CNROM", b, 8, 9, 10, 11, 12, 13, 14, 15)
	b.Latch = 255
	wantChr(t, "CNROM", b, 0, 1, 2, 3, 4, 5, 6, 7)
	b = boardOf(t, 1, 0, 1, 16)
	b.ChrA, b.ChrB = 5, 31
	wantChr(t, "MMC1 by 8 KiB", b, 16, 17, 18, 19, 20, 21, 22, 23)
	b.Ctrl |= 0x10
	wantChr(t, "MMC1 by 4 KiB", b, 20, 21, 22, 23, 124, 125, 126, 127)
	b.Chr = 24
	wantChr(t, "MMC1 by 4 KiB", b, 20, 21, 22, 23, 4, 5, 6, 7)
	b.Ctrl, b.ChrA, b.Sub = 0, 31, 5
	wantChr(t, "MMC1, submapper 5", b, 0, 1, 2, 3, 4, 5, 6, 7)
	b = boardOf(t, 4, 0, 1, 64)
	b.R = [8]uint8{0x11, 0xff, 3, 0x80, 0xfe, 9, 77, 78}
	wantChr(t, "MMC3", b, 0x10, 0x11, 0xfe, 0xff, 3, 0x80, 0xfe, 9)
	b.Sel = 0x80
	wantChr(t, "MMC3 turned", b, 3, 0x80, 0xfe, 9, 0x10, 0x11, 0xfe, 0xff)
	b.Sel, b.Chr = 0x47, 8
	wantChr(t, "MMC3", b, 0, 1, 6, 7, 3, 0, 6, 1)
}

func TestMirror(t *testing.T) {
	want := func(name string, b api.Board, m api.Mirror) {
		t.Helper()
		if got := mapper.Mirror(b); got != m {
			t.Errorf("P2.3: %s: Mirror %d, want %d", name, got, m)
		}
		b.Hard = api.FourPages
		if got := mapper.Mirror(b); got != api.FourPages {
			t.Errorf("P2.3: %s, four pages: Mirror %d", name, got)
		}
	}
	for _, hard := range []api.Mirror{api.Horizontal, api.Vertical} {
		for _, kind := range []int{0, 2, 3} {
			b := boardOf(t, kind, 0, 2, 2)
			b.Hard = hard
			want("by the image", b, hard)
			if kind != 0 {
				b.Latch = 0xff
			}
			want("by the image", b, hard)
		}
		b := boardOf(t, 1, 0, 2, 2)
		b.Hard = hard
		for n, m := range []api.Mirror{api.OneLow, api.OneHigh, api.Vertical, api.Horizontal} {
			b.Ctrl = uint8(n)
			want("MMC1", b, m)
			b.Ctrl |= 0x1c
			want("MMC1", b, m)
		}
		b = boardOf(t, 4, 0, 2, 2)
		b.Hard = hard
		want("MMC3", b, api.Vertical)
		b.Turn = 1
		want("MMC3", b, api.Horizontal)
		b = boardOf(t, 7, 0, 2, 2)
		b.Hard, b.Latch = hard, 0xef
		want("AxROM", b, api.OneLow)
		b.Latch = 0x10
		want("AxROM", b, api.OneHigh)
	}
}

func TestPage(t *testing.T) {
	for _, row := range []struct {
		b     api.Board
		pages [4]int
	}{
		{api.Board{Prg: 2, Chr: 8}, [4]int{0, 0, 1, 1}},
		{api.Board{Prg: 2, Chr: 8, Hard: api.Vertical}, [4]int{0, 1, 0, 1}},
		{api.Board{Prg: 2, Chr: 8, Hard: api.FourPages}, [4]int{0, 1, 2, 3}},
		{api.Board{Prg: 2, Chr: 8, Kind: 7}, [4]int{0, 0, 0, 0}},
		{api.Board{Prg: 2, Chr: 8, Kind: 7, Latch: 0x10}, [4]int{1, 1, 1, 1}},
		{api.Board{Prg: 2, Chr: 8, Kind: 7, Latch: 0x10, Hard: api.FourPages}, [4]int{0, 1, 2, 3}},
	} {
		for addr := range 0x10000 {
			if got := mapper.Page(row.b, uint16(addr)); got != row.pages[addr>>10&3] {
				t.Fatalf("P2.3: %+v: Page(%#x) = %d", row.b, addr, got)
			}
		}
	}
}

func TestRamMode(t *testing.T) {
	want := func(name string, b api.Board, mode int) {
		t.Helper()
		b.Work = true
		if got := mapper.RamMode(b); got != mode {
			t.Errorf("P2.3: %s: RamMode %d, want %d", name, got, mode)
		}
		b.Work = false
		if got := mapper.RamMode(b); got != 0 {
			t.Errorf("P2.3: %s without work RAM: RamMode %d", name, got)
		}
	}
	for _, kind := range []int{0, 2, 3, 7} {
		for _, sub := range subs[kind] {
			b := boardOf(t, kind, sub, 2, 2)
			want("a new one", b, 2)
			if kind != 0 {
				b.Latch = 0xff
			}
			want("with its latch full", b, 2)
		}
	}
	for _, sub := range subs[1] {
		b := boardOf(t, 1, sub, 2, 2)
		for n := range 32 {
			b.PrgR = uint8(n)
			want("MMC1", b, 2-n/16*2)
		}
	}
	for _, sub := range subs[4] {
		b := boardOf(t, 4, sub, 2, 2)
		for n, mode := range []int{0, 0, 2, 1} {
			b.Guard = uint8(n << 6)
			want("MMC3", b, mode)
		}
	}
}
