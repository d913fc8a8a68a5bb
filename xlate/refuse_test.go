package xlate_test

import (
	"math"
	"testing"

	"tandem/api"
	"tandem/xlate"
)

// refuses asks for an error, and for the zero Block beside one.
func refuses(t *testing.T, pc uint16, tag int, code []uint8, limit int, want api.Errno) {
	t.Helper()
	b, e := xlate.Translate(pc, tag, code, limit)
	if e != want || e != api.OK && !isZero(b) || e == api.OK && (b.PC != pc || b.Tag != tag) {
		t.Errorf("P13.1: Translate($%04X, %d, %d bytes, %d): error %d, %+v, want %d", pc, tag, len(code), limit, e, b, want)
	}
}

func TestLimits(t *testing.T) {
	for _, limit := range []int{math.MinInt, -64, -1, 0, 65, 66, 1 << 32, 1<<32 + 1, math.MaxInt} {
		refuses(t, 0x0200, api.TagRam, sum, limit, api.ErrLimit)
	}
	for limit := 1; limit <= 64; limit++ {
		refuses(t, 0x0200, api.TagRam, sum, limit, api.OK)
	}
}

// Each tag at the bounds of where its code may lie.
func TestTags(t *testing.T) {
	lies := func(tag int, pc uint16) bool {
		return tag == 128 && pc <= 0x1fff || tag == 129 && pc >= 0x6000 && pc <= 0x7fff || tag >= 0 && tag <= 127 && pc >= 0x8000
	}
	for _, tag := range []int{math.MinInt, -129, -128, -2, api.TagNone, 0, 1, 63, 126, 127, api.TagRam, api.TagWork, 130, 255, 256, 256 + 128, 1<<32 + 128, math.MaxInt} {
		for _, pc := range []uint16{0, 1, 0x7ff, 0x800, 0x1ffe, 0x1fff, 0x2000, 0x4000, 0x5fff, 0x6000, 0x6001, 0x7ffe, 0x7fff, 0x8000, 0x8001, 0x9fff, 0xa000, 0xfffe, 0xffff} {
			want := api.ErrArg
			if lies(tag, pc) {
				want = api.OK
			}
			refuses(t, pc, tag, nil, 64, want)
			refuses(t, pc, tag, []uint8{0xea}, 1, want)
		}
	}
}

// As many bytes as there are to the window's end, and one more.
func TestRoom(t *testing.T) {
	all := make([]uint8, 0x2001)
	for _, c := range []struct {
		pc   uint16
		tag  int
		room int
	}{
		{0x0000, api.TagRam, 0x800}, {0x0001, api.TagRam, 0x7ff}, {0x07fe, api.TagRam, 2}, {0x07ff, api.TagRam, 1}, {0x0800, api.TagRam, 0x800}, {0x0fff, api.TagRam, 1},
		{0x1000, api.TagRam, 0x800}, {0x17ff, api.TagRam, 1}, {0x1800, api.TagRam, 0x800}, {0x1fff, api.TagRam, 1},
		{0x6000, api.TagWork, 0x2000}, {0x67ff, api.TagWork, 0x1801}, {0x7ffe, api.TagWork, 2}, {0x7fff, api.TagWork, 1},
		{0x8000, 0, 0x2000}, {0x9fff, 0, 1}, {0xa000, 127, 0x2000}, {0xbffd, 5, 3}, {0xc000, 9, 0x2000}, {0xdfff, 3, 1}, {0xe000, 1, 0x2000}, {0xfffe, 1, 2}, {0xffff, 127, 1},
	} {
		refuses(t, c.pc, c.tag, all[:c.room], 64, api.OK)
		refuses(t, c.pc, c.tag, all[:c.room+1], 64, api.ErrCode)
		refuses(t, c.pc, c.tag, make([]uint8, 0x20000), 64, api.ErrCode)
	}
}

// Of several errors the first one is told.
func TestOrderOfErrors(t *testing.T) {
	long := make([]uint8, 0x10001)
	refuses(t, 0x2000, api.TagRam, long, 0, api.ErrLimit)
	refuses(t, 0x0200, api.TagRam, long, 65, api.ErrLimit)
	refuses(t, 0x0200, -1, nil, 0, api.ErrLimit)
	refuses(t, 0x2000, api.TagRam, long, 1, api.ErrArg)
	refuses(t, 0x8000, api.TagWork, long, 64, api.ErrArg)
	refuses(t, 0x7fff, 0, long, 64, api.ErrArg)
	refuses(t, 0x0200, api.TagRam, long, 64, api.ErrCode)
}

// An error is told whatever the code is, whole or not.
func TestErrorsAheadOfCode(t *testing.T) {
	refuses(t, 0x07ff, api.TagRam, []uint8{0x02, 0x02}, 1, api.ErrCode)
	refuses(t, 0x0200, api.TagRam, []uint8{0x02, 0x02}, 1, api.OK)
	refuses(t, 0x0200, api.TagRam, []uint8{}, 1, api.OK)
	refuses(t, 0x0200, api.TagRam, []uint8{0xad}, 1, api.OK)
}
