package mapper_test

import (
	"math"
	"slices"
	"testing"

	"tandem/api"
	"tandem/mapper"
)

// wantNew holds New against an error or a board.
func wantNew(t *testing.T, name string, c api.Cart, want api.Board, e api.Errno) {
	t.Helper()
	if b, got := mapper.New(c); got != e || b != want {
		t.Errorf("P2.2: %s: %d, %+v, want %d, %+v", name, got, b, e, want)
	}
}

// fresh is a new board of that kind, by the chapter.
func fresh(kind, sub, prg, chr int) api.Board {
	b := api.Board{Kind: kind, Sub: sub, Prg: 2 * prg, Chr: 8 * chr, Work: true}
	if chr == 0 {
		b.Chr, b.ChrRam = 8, true
	}
	switch kind {
	case 1:
		b.Shift, b.Ctrl, b.Last = 0x10, 0x0c, -2
	case 4:
		b.R, b.Guard = [8]uint8{0, 2, 4, 5, 6, 7, 0, 1}, 0x80
	}
	return b
}

func TestNewBoards(t *testing.T) {
	for kind := -2; kind <= 300; kind++ {
		for sub := -1; sub <= 16; sub++ {
			if slices.Contains(subs[kind], sub) {
				wantNew(t, "a board", cartOf(kind, sub, 3, 5), fresh(kind, sub, 3, 5), api.OK)
				continue
			}
			wantNew(t, "no board", cartOf(kind, sub, 3, 5), api.Board{}, api.ErrBoard)
		}
	}
	for _, n := range []int{math.MinInt, -1 << 32, 1 << 32, 1<<32 + 1, math.MaxInt} {
		wantNew(t, "no board", cartOf(n, 0, 1, 0), api.Board{}, api.ErrBoard)
		wantNew(t, "no board", cartOf(2, n, 1, 0), api.Board{}, api.ErrBoard)
	}
}

func TestNewSizes(t *testing.T) {
	for _, kind := range kinds {
		for n := 0; n <= 66; n++ {
			e, f := api.OK, api.OK
			b, c := fresh(kind, 0, n, 1), fresh(kind, 0, 1, n)
			if n == 0 || n > 64 {
				b, e = api.Board{}, api.ErrBanks
			}
			if n > 64 {
				c, f = api.Board{}, api.ErrBanks
			}
			wantNew(t, "PRG", cartOf(kind, 0, n, 1), b, e)
			wantNew(t, "CHR", cartOf(kind, 0, 1, n), c, f)
		}
		for _, n := range []int{1, 8192, 16383, 16385, 24576, 64*16384 - 1, 64*16384 + 1, 64*16384 + 8192} {
			c := cartOf(kind, 0, 1, 1)
			c.Prg = make([]byte, n)
			wantNew(t, "PRG that is no whole unit", c, api.Board{}, api.ErrBanks)
		}
		for _, n := range []int{1, 4096, 8191, 8193, 12288, 64*8192 - 1, 64*8192 + 1} {
			c := cartOf(kind, 0, 1, 1)
			c.Chr = make([]byte, n)
			wantNew(t, "CHR that is no whole unit", c, api.Board{}, api.ErrBanks)
		}
	}
	wantNew(t, "the zero cartridge", api.Cart{}, api.Board{}, api.ErrBanks)
	wantNew(t, "no board and no size", cartOf(5, 0, 0, 65), api.Board{}, api.ErrBoard)
	wantNew(t, "no submapper and no size", cartOf(2, 3, 65, 65), api.Board{}, api.ErrBoard)
}

func TestNewWires(t *testing.T) {
	for _, kind := range kinds {
		for _, row := range []struct {
			vert, four bool
			hard       api.Mirror
		}{{false, false, api.Horizontal}, {true, false, api.Vertical}, {false, true, api.FourPages}, {true, true, api.FourPages}} {
			c := cartOf(kind, 0, 2, 2)
			c.Vert, c.Four = row.vert, row.four
			want := fresh(kind, 0, 2, 2)
			want.Hard = row.hard
			wantNew(t, "mirroring", c, want, api.OK)
		}
		for _, row := range []struct {
			ram, nv int
			work    bool
		}{
			{0, 0, false}, {-1, 0, false}, {0, -1, false}, {-8192, -8192, false}, {math.MinInt, math.MinInt, false},
			{1, 0, true}, {0, 1, true}, {8192, 8192, true}, {8192, -8192, true}, {-8192, 8192, true}, {1, math.MinInt, true}, {math.MinInt, 1, true},
			{math.MaxInt, 0, true}, {math.MaxInt, math.MaxInt, true}, {math.MaxInt, 1, true}, {math.MaxInt, -1, true},
		} {
			c := cartOf(kind, 0, 2, 2)
			c.PrgRam, c.PrgNv = row.ram, row.nv
			want := fresh(kind, 0, 2, 2)
			want.Work = row.work
			wantNew(t, "work RAM", c, want, api.OK)
		}
	}
}

// TestNewLooksAtNumbersAlone: neither bytes nor the fields that a board has nothing of are looked at.
func TestNewLooksAtNumbersAlone(t *testing.T) {
	for _, kind := range kinds {
		for chr := range 2 {
			c := cartOf(kind, 0, 2, chr)
			for i := range c.Prg {
				c.Prg[i] = uint8(i*7 + 1)
			}
			for i := range c.Chr {
				c.Chr[i] = uint8(i*5 + 3)
			}
			c.Format, c.Battery, c.Console, c.Kind, c.Timing, c.Device, c.Misc = -9, true, 99, -1, 7, 1000, -3
			c.ChrRam, c.ChrNv, c.Trainer, c.Rest = 32768, -5, []byte{1, 2}, []byte{3}
			wantNew(t, "another cartridge's numbers", c, fresh(kind, 0, 2, chr), api.OK)
		}
	}
}
