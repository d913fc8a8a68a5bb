package vram_test

import (
	"bytes"
	"math/rand"
	"testing"

	"tandem/api"
	"tandem/vram"
)

// spanIs holds a span against single bytes of the chapter's words.
func spanIs(t *testing.T, v api.Video, b api.Board, chr []byte, addr uint16, n int) {
	t.Helper()
	x := open(v, b, chr)
	want := make([]byte, n)
	for i := range want {
		want[i] = x.get(int(addr) + i)
	}
	got := vram.Span(v, b, chr, addr, n)
	if len(got) != n {
		t.Fatalf("P8.2: Span(%#x, %d) has %d bytes", addr, n, len(got))
	}
	for i := range want {
		if got[i] != want[i] {
			t.Fatalf("P8.2: Span(%#x, %d): byte %d is %#x, want %#x: %+v", addr, n, i, got[i], want[i], b)
		}
	}
}

func TestSpanByHand(t *testing.T) {
	b := plainBoard(api.Vertical)
	v := api.Video{}
	v.Chr[0], v.Chr[1], v.Chr[0x1fff] = 1, 2, 3
	v.Nt[0], v.Nt[1], v.Nt[0x3ff], v.Nt[0x400], v.Nt[0x6ff], v.Nt[0x7ff] = 4, 5, 6, 7, 8, 9
	for i := range v.Pal {
		v.Pal[i] = uint8(32 + i)
	}
	v.Pal[16], v.Pal[20], v.Pal[24], v.Pal[28] = 0, 0, 0, 0
	for _, row := range []struct {
		addr uint16
		want []byte
	}{
		{0x0000, []byte{1, 2, 0}},
		{0x1ffe, []byte{0, 3, 4, 5}},
		{0x23fe, []byte{0, 6, 7, 0}},
		{0x27ff, []byte{9, 4, 5}},
		{0x2fff, []byte{9, 4, 5}},
		{0x3efe, []byte{0, 8, 32, 33, 34, 35, 36}},
		{0x3f0e, []byte{46, 47, 32, 49, 50, 51, 36, 53, 54, 55, 40, 57, 58, 59, 44, 61, 62, 63, 32, 33, 34, 35, 36}},
		{0x3f10, []byte{32}},
		{0x3f11, []byte{49, 50}},
		{0x3f17, []byte{55, 40}},
		{0x3ffe, []byte{62, 63, 1, 2, 0}},
		{0x3fff, []byte{63}},
		{0x4000, []byte{1, 2, 0}},
		{0x7fff, []byte{63, 1, 2}},
		{0xbffe, []byte{62, 63, 1}},
		{0xfffe, []byte{62, 63, 1, 2, 0}},
	} {
		if got := vram.Span(v, b, nil, row.addr, len(row.want)); !bytes.Equal(got, row.want) {
			t.Errorf("P8.2: Span(%#x, %d) = %d, want %d", row.addr, len(row.want), got, row.want)
		}
	}
	v.Grey = true
	if got := vram.Span(v, b, nil, 0x3f01, 3); !bytes.Equal(got, []byte{33, 34, 35}) {
		t.Errorf("P8.2: Span with Grey: %d", got)
	}
}

func TestSpanLengths(t *testing.T) {
	r := rand.New(rand.NewSource(823))
	for _, b := range boards {
		v := anyValid(r, b)
		chr := bytesOf(r, 1024*b.Chr)
		for _, addr := range []uint16{0, 1, 0x1fff, 0x3f10, 0x3fff, 0xffff} {
			for _, n := range []int{0, -1, -2, -16384, -greatest - 1, 16385, 16386, 32768, 65536, 1 << 32, greatest} {
				if l := vram.Span(v, b, chr, addr, n); len(l) != 0 {
					t.Errorf("P8.2: Span of %d bytes answers %d", n, len(l))
				}
			}
			for _, n := range []int{1, 2, 16383, 16384} {
				spanIs(t, v, b, chr, addr, n)
			}
		}
	}
}

// TestSpanEverywhere: from each edge, so far as each edge and one more or less.
func TestSpanEverywhere(t *testing.T) {
	r := rand.New(rand.NewSource(824))
	for _, b := range boards {
		v := anyValid(r, b)
		chr := bytesOf(r, 1024*b.Chr)
		for _, from := range edges {
			to := edges[r.Intn(len(edges))]
			n := int(to-from)%16384 + r.Intn(3) - 1
			spanIs(t, v, b, chr, from, min(max(n, 0), 16384))
			spanIs(t, v, b, chr, from, r.Intn(40))
		}
	}
	for range 1500 {
		b := anyBoard(r)
		spanIs(t, anyValid(r, b), b, anyChr(r, b), uint16(r.Intn(65536)), some(r, r.Intn(100), r.Intn(3000), r.Intn(16385)))
	}
}

// TestSpanShortChr: where CHR ends the span goes on with 0, whatever lies in its spare room.
func TestSpanShortChr(t *testing.T) {
	r := rand.New(rand.NewSource(825))
	full := bytesOf(r, 8192)
	v := api.Video{}
	v.Nt[0] = 9
	for _, n := range []int{0, 1, 5, 1023, 1024, 1025, 5000, 8191} {
		got := vram.Span(v, romBoard(0), full[:n], 0, 8193)
		if len(got) != 8193 || !bytes.Equal(got[:n], full[:n]) || !bytes.Equal(got[n:8192], make([]byte, 8192-n)) || got[8192] != 9 {
			t.Errorf("P8.2: Span of CHR of %d bytes", n)
		}
	}
}

// TestSpanIsNew: a span is nobody else's, and what is written into it or behind it reaches nothing.
func TestSpanIsNew(t *testing.T) {
	r := rand.New(rand.NewSource(826))
	for _, b := range boards {
		v := anyValid(r, b)
		chr := bytesOf(r, 1024*b.Chr)
		kept, ahead := string(chr), v
		for _, addr := range []uint16{0, 5, 0x1ff0, 0x2000, 0x3f00, 0x3ff0} {
			first := vram.Span(v, b, chr, addr, 100)
			second := vram.Span(v, b, chr, addr, 100)
			told := string(first)
			_ = append(first, 0xaa, 0xab)
			spare := first[:cap(first)]
			for i := range spare {
				spare[i] ^= 0xff
			}
			if string(second) != told || string(vram.Span(v, b, chr, addr, 100)) != told {
				t.Errorf("P8.2: two spans at %#x share memory", addr)
			}
			if string(chr) != kept {
				t.Fatalf("P8.2: a span at %#x shares memory with CHR", addr)
			}
			same(t, "P8.2: a memory of which a span was asked", v, ahead)
			for i := range chr {
				chr[i] ^= 0xff
			}
			if string(second) != told {
				t.Errorf("P8.2: a span at %#x changes with CHR", addr)
			}
			for i := range chr {
				chr[i] ^= 0xff
			}
		}
	}
}
