package vram_test

import (
	"math/rand"
	"testing"

	"tandem/api"
	"tandem/vram"
)

// writeIs asks for the memory behind a write; Io is seen to.
func writeIs(t *testing.T, what string, v api.Video, b api.Board, reg int, val uint8, behind api.Video) {
	t.Helper()
	behind.Io = val
	same(t, "P8.4: "+what, vram.Write(v, b, reg, val), behind)
}

func TestWriteCtrl(t *testing.T) {
	r := rand.New(rand.NewSource(840))
	b := boards[0]
	for _, row := range []struct {
		t    uint16
		val  uint8
		to   uint16
		wide bool
	}{
		{0x0000, 0x00, 0x0000, false}, {0x0000, 0x01, 0x0400, false}, {0x0000, 0x02, 0x0800, false}, {0x0000, 0x03, 0x0c00, false},
		{0x0000, 0x04, 0x0000, true}, {0x0000, 0xf8, 0x0000, false}, {0x0000, 0xff, 0x0c00, true}, {0x7fff, 0x00, 0x73ff, false},
		{0x7fff, 0x01, 0x77ff, false}, {0x7fff, 0x02, 0x7bff, false}, {0x7fff, 0xff, 0x7fff, true}, {0x7fff, 0xfc, 0x73ff, true},
	} {
		for _, wide := range []bool{false, true} {
			for _, n := range beyond(0) {
				v := anyValid(r, b)
				v.T, v.Wide = row.t, wide
				behind := v
				behind.T, behind.Wide = row.to, row.wide
				writeIs(t, "register 0", v, b, n, row.val, behind)
			}
		}
	}
}

func TestWriteSimple(t *testing.T) {
	r := rand.New(rand.NewSource(841))
	b := boards[0]
	for val := range 256 {
		v := anyValid(r, b)
		behind := v
		behind.Grey = val%2 == 1
		writeIs(t, "register 1", v, b, beyond(1)[val%10], uint8(val), behind)
		writeIs(t, "register 2", v, b, beyond(2)[val%10], uint8(val), v)
		behind = v
		behind.OamAt = uint8(val)
		writeIs(t, "register 3", v, b, beyond(3)[val%10], uint8(val), behind)
	}
}

// TestWriteOam: each place with bytes of all bits, and its third bytes.
func TestWriteOam(t *testing.T) {
	r := rand.New(rand.NewSource(842))
	b := boards[0]
	v := anyValid(r, b)
	for at := range 256 {
		for i, val := range []uint8{0, 1, 4, 8, 16, 0x1c, 32, 0xe3, 0xe7, 0xff} {
			v.OamAt = uint8(at)
			behind := v
			behind.Oam[at] = val
			if at%4 == 2 {
				behind.Oam[at] = val & 0xe3
			}
			behind.OamAt = uint8((at + 1) % 256)
			writeIs(t, "register 4", v, b, beyond(4)[i], val, behind)
		}
	}
	full := writes(api.Video{OamAt: 255}, b, 4, 0x1d)
	if full.Oam != [256]uint8{255: 0x1d} || full.OamAt != 0 {
		t.Errorf("P8.4: a write at 255: OamAt is %d", full.OamAt)
	}
}

func TestWriteScroll(t *testing.T) {
	r := rand.New(rand.NewSource(843))
	b := boards[0]
	for _, row := range []struct {
		t      uint16
		val    uint8
		across uint16
		x      uint8
		down   uint16
	}{
		{0x0000, 0x00, 0x0000, 0, 0x0000},
		{0x0000, 0x01, 0x0000, 1, 0x1000},
		{0x0000, 0x07, 0x0000, 7, 0x7000},
		{0x0000, 0x08, 0x0001, 0, 0x0020},
		{0x0000, 0x7d, 0x000f, 5, 0x51e0},
		{0x0000, 0x80, 0x0010, 0, 0x0200},
		{0x0000, 0xf8, 0x001f, 0, 0x03e0},
		{0x0000, 0xff, 0x001f, 7, 0x73e0},
		{0x7fff, 0x00, 0x7fe0, 0, 0x0c1f},
		{0x7fff, 0xff, 0x7fff, 7, 0x7fff},
		{0x7fff, 0x5e, 0x7feb, 6, 0x6d7f},
		{0x0c00, 0x5e, 0x0c0b, 6, 0x6d60},
	} {
		for _, n := range beyond(5) {
			v := anyValid(r, b)
			v.T, v.W = row.t, false
			behind := v
			behind.T, behind.X, behind.W = row.across, row.x, true
			writeIs(t, "register 5, the first of a pair", v, b, n, row.val, behind)
			v.W = true
			behind = v
			behind.T, behind.W = row.down, false
			writeIs(t, "register 5, the second of a pair", v, b, n, row.val, behind)
		}
	}
}

func TestWriteAddr(t *testing.T) {
	r := rand.New(rand.NewSource(844))
	b := boards[0]
	for _, row := range []struct {
		t         uint16
		val       uint8
		high, low uint16
	}{
		{0x0000, 0x00, 0x0000, 0x0000},
		{0x0000, 0x21, 0x2100, 0x0021},
		{0x0000, 0x3f, 0x3f00, 0x003f},
		{0x0000, 0x40, 0x0000, 0x0040},
		{0x0000, 0x80, 0x0000, 0x0080},
		{0x0000, 0xff, 0x3f00, 0x00ff},
		{0x7fff, 0x00, 0x00ff, 0x7f00},
		{0x7fff, 0x3f, 0x3fff, 0x7f3f},
		{0x7fff, 0xc0, 0x00ff, 0x7fc0},
		{0x7fff, 0xff, 0x3fff, 0x7fff},
		{0x4000, 0x12, 0x1200, 0x4012},
		{0x2345, 0x67, 0x2745, 0x2367},
	} {
		for _, n := range beyond(6) {
			v := anyValid(r, b)
			v.T, v.W = row.t, false
			behind := v
			behind.T, behind.W = row.high, true
			writeIs(t, "register 6, the first of a pair", v, b, n, row.val, behind)
			v.W = true
			behind = v
			behind.T, behind.V, behind.W = row.low, row.low, false
			writeIs(t, "register 6, the second of a pair", v, b, n, row.val, behind)
		}
	}
}

// TestWriteMixed: registers 5 and 6 share W, and a read of register 2 begins a pair anew.
func TestWriteMixed(t *testing.T) {
	b := boards[0]
	v := writes(api.Video{}, b, 5, 0x7d, 6, 0x99)
	same(t, "P8.4: 5, then 6", v, api.Video{T: 0x0099, V: 0x0099, X: 5, Io: 0x99})
	v = writes(api.Video{}, b, 6, 0x3e, 5, 0x5e)
	same(t, "P8.4: 6, then 5", v, api.Video{T: 0x6d60, Io: 0x5e})
	_, v = vram.Read(writes(api.Video{}, b, 5, 0xff), b, nil, 2, 0)
	same(t, "P8.4: 5, a read of 2, then 5", writes(v, b, 5, 0x08), api.Video{T: 1, W: true, Io: 0x08})
	v = writes(api.Video{}, b, 5, 0xff, 5, 0xff, 0, 3)
	if v.T != 0x7fff || v.V != 0 {
		t.Errorf("P8.4: T is %#x, V is %#x", v.T, v.V)
	}
	v = writes(v, b, 6, 0xff)
	if v.T != 0x3fff {
		t.Errorf("P8.4: bit 14 of T: %#x", v.T)
	}
}

// TestWriteData: what is stored where, and how V goes on.
func TestWriteData(t *testing.T) {
	b := plainBoard(api.Vertical)
	for _, row := range []struct {
		at, next, wide uint16
		cell           func(v *api.Video) *uint8
		val            uint8
	}{
		{0x0000, 0x0001, 0x0020, func(v *api.Video) *uint8 { return &v.Chr[0] }, 0xd7},
		{0x1fff, 0x2000, 0x201f, func(v *api.Video) *uint8 { return &v.Chr[0x1fff] }, 0xd7},
		{0x2000, 0x2001, 0x2020, func(v *api.Video) *uint8 { return &v.Nt[0] }, 0xd7},
		{0x2fff, 0x3000, 0x301f, func(v *api.Video) *uint8 { return &v.Nt[0x7ff] }, 0xd7},
		{0x3000, 0x3001, 0x3020, func(v *api.Video) *uint8 { return &v.Nt[0] }, 0xd7},
		{0x3eff, 0x3f00, 0x3f1f, func(v *api.Video) *uint8 { return &v.Nt[0x6ff] }, 0xd7},
		{0x3f00, 0x3f01, 0x3f20, func(v *api.Video) *uint8 { return &v.Pal[0] }, 0x17},
		{0x3f10, 0x3f11, 0x3f30, func(v *api.Video) *uint8 { return &v.Pal[0] }, 0x17},
		{0x3f14, 0x3f15, 0x3f34, func(v *api.Video) *uint8 { return &v.Pal[4] }, 0x17},
		{0x3f18, 0x3f19, 0x3f38, func(v *api.Video) *uint8 { return &v.Pal[8] }, 0x17},
		{0x3f1c, 0x3f1d, 0x3f3c, func(v *api.Video) *uint8 { return &v.Pal[12] }, 0x17},
		{0x3fff, 0x4000, 0x401f, func(v *api.Video) *uint8 { return &v.Pal[31] }, 0x17},
		{0x4000, 0x4001, 0x4020, func(v *api.Video) *uint8 { return &v.Chr[0] }, 0xd7},
		{0x6000, 0x6001, 0x6020, func(v *api.Video) *uint8 { return &v.Nt[0] }, 0xd7},
		{0x7f1c, 0x7f1d, 0x7f3c, func(v *api.Video) *uint8 { return &v.Pal[12] }, 0x17},
		{0x7fe0, 0x7fe1, 0x0000, func(v *api.Video) *uint8 { return &v.Pal[0] }, 0x17},
		{0x7fff, 0x0000, 0x001f, func(v *api.Video) *uint8 { return &v.Pal[31] }, 0x17},
	} {
		for _, n := range beyond(7) {
			v := api.Video{V: row.at, T: 0x1234, Buf: 5}
			behind := v
			*row.cell(&behind) = row.val
			behind.V = row.next
			writeIs(t, "register 7", v, b, n, 0xd7, behind)
			v.Wide, behind.Wide = true, true
			behind.V = row.wide
			writeIs(t, "register 7, wide", v, b, n, 0xd7, behind)
		}
	}
}

// TestWriteChr: a write to CHR of the cartridge changes nothing but Io and V.
func TestWriteChr(t *testing.T) {
	r := rand.New(rand.NewSource(845))
	b := romBoard(api.Vertical)
	for _, at := range []uint16{0, 5, 0x0fff, 0x1fff, 0x4000, 0x5fff} {
		v := anyValid(r, b)
		v.V, v.Wide = at, false
		behind := v
		behind.V++
		writeIs(t, "register 7, CHR", v, b, 7, 0xd7, behind)
	}
}

// TestWriteAny holds every register against the chapter's words.
func TestWriteAny(t *testing.T) {
	r := rand.New(rand.NewSource(846))
	for range 20000 {
		b := anyBoard(r)
		v := anyValid(r, b)
		reg, val := int(r.Uint64()), anyByte(r)
		x := open(v, b, nil)
		x.write(int(uint(reg)%8), val)
		same(t, "P8.4: any memory", vram.Write(v, b, reg, val), x.shut())
		if t.Failed() {
			t.Fatalf("write of %#x to register %d at V %#x, %+v", val, reg, v.V, b)
		}
	}
}

// TestLong is many reads and writes one behind the other, the board changing now and then.
func TestLong(t *testing.T) {
	r := rand.New(rand.NewSource(847))
	for range 20 {
		b := anyBoard(r)
		chr := anyChr(r, b)
		x := open(api.Video{}, b, chr)
		v := api.Video{}
		for k := range 1000 {
			reg, val := some(r, r.Intn(8), 5, 6, 7, 7), anyByte(r)
			if r.Intn(3) == 0 {
				got, next := vram.Read(v, b, chr, reg, val)
				if want := x.read(reg, val); got != want {
					t.Fatalf("P8.3: access number %d: register %d gives %#x, want %#x", k, reg, got, want)
				}
				v = next
			} else {
				v = vram.Write(v, b, reg, val)
				x.write(reg, val)
			}
			if v != x.shut() {
				t.Fatalf("P8.4: behind access number %d, of register %d: %s", k, reg, differ(v, x.shut()))
			}
		}
	}
}
