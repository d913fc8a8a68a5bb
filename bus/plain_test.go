package bus_test

import (
	"math/rand"
	"testing"

	"tandem/api"
	"tandem/mapper"
)

func TestPlain(t *testing.T) {
	for mode, b := range workModes(t) {
		for _, x := range []struct {
			from, to    uint16
			read, write bool
		}{
			{0x0000, 0x1fff, true, true},
			{0x2000, 0x3fff, false, false},
			{0x4000, 0x4013, false, false},
			{0x4014, 0x4015, false, false},
			{0x4016, 0x4017, false, false},
			{0x4018, 0x401b, false, false},
			{0x401c, 0x5fff, false, false},
			{0x6000, 0x7fff, mode > 0, mode == 2},
			{0x8000, 0xffff, true, false},
		} {
			for _, addr := range []uint16{x.from, x.from + (x.to-x.from)/2, x.to} {
				if b.Plain(addr, false) != x.read || b.Plain(addr, true) != x.write {
					t.Errorf("P10.11: mode %d: Plain(%#x): %v, %v", mode, addr, b.Plain(addr, false), b.Plain(addr, true))
				}
			}
		}
	}
}

// Loads tell the byte where a read is plain, and Stores put it where a write is; nothing else happens.
func TestLoadAndStore(t *testing.T) {
	r := rand.New(rand.NewSource(1012))
	for i, c := range carts() {
		m := anyMem(r, c)
		m.Nmi = false
		b := from(t, c, m)
		for _, addr := range edges {
			want := uint8(0)
			if b.Plain(addr, false) {
				want = b.Peek(addr)
			}
			if got := b.Load(addr); got != want {
				t.Errorf("P10.12: cartridge %d: Load(%#x) = %#x, want %#x", i, addr, got, want)
			}
		}
		same(t, "P10.12: Load", b.Mem(), m)
		for _, addr := range edges {
			v := anyByte(r)
			if b.Store(addr, v) {
				t.Errorf("P10.12: Store(%#x) answers true", addr)
			}
			switch {
			case addr < 0x2000:
				m.Ram[addr%0x800] = v
			case addr >= 0x6000 && addr < 0x8000 && mapper.RamMode(m.Board) == 2:
				m.Work[addr-0x6000] = v
			}
			same(t, "P10.12: Store", b.Mem(), m)
		}
		if l := b.Log(); len(l) != 0 {
			t.Errorf("P10.15: Load and Store log %v", l)
		}
	}
}

func TestWorkRamWithoutCycles(t *testing.T) {
	for mode, b := range workModes(t) {
		b.Write(0x4000, 0xee)
		want := uint8(0x21)
		if mode == 0 {
			want = 0
		}
		if got := b.Load(0x6000); got != want {
			t.Errorf("P10.12: mode %d: Load($6000) = %#x, want %#x", mode, got, want)
		}
		b.Store(0x6000, 0x99)
		want = 0x21
		if mode == 2 {
			want = 0x99
		}
		if m := b.Mem(); m.Work[0] != want || m.Open != 0xee || m.Cycle != 1 {
			t.Errorf("P10.12: mode %d: Store leaves %#x, open bus %#x, cycle %d", mode, m.Work[0], m.Open, m.Cycle)
		}
	}
}

func TestTagAndPlace(t *testing.T) {
	for mode, b := range workModes(t) {
		writes(b, 0x8000, 6, 0x8001, 9, 0x8000, 7, 0x8001, 3)
		work, first, last := api.TagWork, 2048, 10239
		if mode == 0 {
			work, first, last = api.TagNone, -1, -1
		}
		for _, x := range []struct {
			addr       uint16
			tag, place int
		}{
			{0x0000, api.TagRam, 0}, {0x07ff, api.TagRam, 2047}, {0x0800, api.TagRam, 0}, {0x1fff, api.TagRam, 2047},
			{0x2000, api.TagNone, -1}, {0x3fff, api.TagNone, -1}, {0x4000, api.TagNone, -1}, {0x4014, api.TagNone, -1}, {0x5fff, api.TagNone, -1},
			{0x6000, work, first}, {0x7fff, work, last},
			{0x8000, 9, 10240 + 9*8192}, {0x9fff, 9, 10240 + 9*8192 + 8191}, {0xa000, 3, 10240 + 3*8192}, {0xbfff, 3, 10240 + 3*8192 + 8191},
			{0xc000, 14, 10240 + 14*8192}, {0xdfff, 14, 10240 + 14*8192 + 8191}, {0xe000, 15, 10240 + 15*8192}, {0xffff, 15, 10240 + 15*8192 + 8191},
		} {
			if tag, place := b.Tag(x.addr), b.Place(x.addr); tag != x.tag || place != x.place {
				t.Errorf("P10.14: mode %d: %#x: tag %d, place %d, want %d, %d", mode, x.addr, tag, place, x.tag, x.place)
			}
		}
	}
}

// Two addresses have one place just if they are one byte, and the greatest place is the last byte of the greatest PRG.
func TestPlacesAreBytes(t *testing.T) {
	b := fresh(t, filled(api.Cart{Mapper: api.UxROM, PrgRam: 8192}, 64, 0))
	if tag, place := b.Tag(0xffff), b.Place(0xffff); tag != 127 || place != 10240+api.MaxPrg-1 {
		t.Errorf("P10.14: the last byte: tag %d, place %d", tag, place)
	}
	seen := map[int]uint16{}
	for i := range 65536 {
		addr := uint16(i)
		place := b.Place(addr)
		if (place < 0) != (b.Tag(addr) == api.TagNone) || (place < 0) == b.Plain(addr, false) {
			t.Fatalf("P10.14: %#x: tag %d, place %d", addr, b.Tag(addr), place)
		}
		if place < 0 {
			continue
		}
		if other, ok := seen[place]; ok && (addr >= 0x2000 || other%0x800 != addr%0x800) {
			t.Fatalf("P10.14: %#x and %#x have one place", other, addr)
		}
		seen[place] = addr
	}
	if len(seen) != 2048+8192+32768 {
		t.Errorf("P10.14: there are %d places", len(seen))
	}
}
