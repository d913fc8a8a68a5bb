package mapper_test

import (
	"testing"

	"tandem/api"
	"tandem/mapper"
)

func TestExampleUxROM(t *testing.T) {
	b := boardOf(t, 2, 0, 4, 0)
	if b.Prg != 8 || b.Chr != 8 || !b.ChrRam {
		t.Errorf("P2.8, example 1: %+v", b)
	}
	wantBanks(t, "example 1", b, 0, 1, 6, 7)
	b = mapper.Write(b, 0xc123, 2, 0, 7)
	wantBanks(t, "example 1", b, 4, 5, 6, 7)
	if b.Epoch != 1 {
		t.Errorf("P2.5: example 1: Epoch %d", b.Epoch)
	}
	b = mapper.Write(b, 0x8000, 6, 0, 8)
	wantBanks(t, "example 1", b, 4, 5, 6, 7)
	if b.Epoch != 1 {
		t.Errorf("P2.5: example 1: Epoch %d", b.Epoch)
	}
	if b = mapper.Write(boardOf(t, 2, 2, 4, 0), 0x8000, 7, 2, 0); b.Latch != 2 {
		t.Errorf("P2.4: example 2: Latch %d", b.Latch)
	}
}

func TestExampleMMC1(t *testing.T) {
	b := boardOf(t, 1, 0, 16, 0)
	wantBanks(t, "example 3", b, 0, 1, 30, 31)
	c := b
	for i, v := range []uint8{1, 0, 1, 0, 0} {
		b = mapper.Write(b, 0xe000, v, 0, 10+2*i)
	}
	wantBanks(t, "example 3", b, 10, 11, 30, 31)
	if b.PrgR != 5 || b.Epoch != 1 {
		t.Errorf("P2.4: example 3: %+v", b)
	}
	for i, at := range []int{10, 11, 14, 16, 18} {
		c = mapper.Write(c, 0xe000, []uint8{1, 0, 1, 0, 0}[i], 0, at)
	}
	if c.PrgR != 0 || c.Shift != 0x07 {
		t.Errorf("P2.4: example 3, the second write lost: %+v", c)
	}
	b = serial(boardOf(t, 1, 0, 16, 0), 0x8000, 0x12)
	b = written(b, store{0xa000, 1}, store{0xa000, 1}, store{0xa000, 1})
	c = mapper.Write(b, 0x8000, 0x80, 0, 100)
	b.Shift, b.Ctrl, b.Last, b.Epoch = 0x10, 0x1e, 100, c.Epoch
	if c != b {
		t.Errorf("P2.4: example 4: %+v, want %+v", c, b)
	}
	b = boardOf(t, 1, 0, 32, 0)
	b.ChrA = 0x10
	wantBanks(t, "example 5", b, 32, 33, 62, 63)
}

func TestExampleMMC3(t *testing.T) {
	b := boardOf(t, 4, 0, 8, 0)
	wantBanks(t, "example 6", b, 0, 1, 14, 15)
	wantChr(t, "example 6", b, 0, 1, 2, 3, 4, 5, 6, 7)
	b = written(b, store{0x8000, 0x46}, store{0x8001, 9})
	wantBanks(t, "example 6", b, 14, 1, 9, 15)
	wantChr(t, "example 6", b, 0, 1, 2, 3, 4, 5, 6, 7)
	wantChr(t, "example 6", written(b, store{0x8000, 0x80}), 4, 5, 6, 7, 0, 1, 2, 3)
	b = written(boardOf(t, 4, 0, 8, 0), store{0xc000, 3}, store{0xc001, 99}, store{0xe001, 99})
	if got := mapper.ToIrq(b); got != 4 {
		t.Errorf("P2.6: example 7: ToIrq %d", got)
	}
	for _, count := range []uint8{3, 2, 1, 0} {
		b = mapper.Clock(b, 1)
		if b.IrqCount != count || b.Irq != (count == 0) {
			t.Errorf("P2.6: example 7: %+v", b)
		}
	}
	if c := mapper.Clock(b, 4); c.IrqCount != 0 {
		t.Errorf("P2.6: example 7: %+v", c)
	}
}

func TestExampleLatchZero(t *testing.T) {
	for _, sub := range subs[4] {
		b := written(boardOf(t, 4, sub, 8, 0), store{0xc000, 0}, store{0xc001, 0}, store{0xe001, 0})
		if got := mapper.ToIrq(b); got != 1 {
			t.Errorf("P2.6: example 8, sub %d: ToIrq %d behind $C001", sub, got)
		}
		want := 1
		if sub == 4 {
			want = -1
		}
		for range 3 {
			b = written(mapper.Clock(b, 1), store{0xe000, 0}, store{0xe001, 0})
			if got := mapper.ToIrq(b); got != want {
				t.Errorf("P2.6: example 8, sub %d: ToIrq %d behind a clock, want %d", sub, got, want)
			}
		}
	}
}

func TestExampleOthers(t *testing.T) {
	b := boardOf(t, 7, 0, 2, 0)
	if b.Prg != 4 {
		t.Errorf("P2.2: example 9: Prg %d", b.Prg)
	}
	for v := range 256 {
		b = written(b, store{0x8000, uint8(v)})
		wantBanks(t, "example 9", b, 0, 1, 2, 3)
	}
	b = written(b, store{0x8000, 0x10})
	if mapper.Mirror(b) != api.OneHigh {
		t.Errorf("P2.3: example 9: Mirror %d", mapper.Mirror(b))
	}
	for addr := range 0x10000 {
		if mapper.Page(b, uint16(addr)) != 1 {
			t.Fatalf("P2.3: example 9: Page(%#x)", addr)
		}
	}
	b = boardOf(t, 0, 0, 1, 0)
	for hard, pages := range map[api.Mirror][4]int{api.Horizontal: {0, 0, 1, 1}, api.Vertical: {0, 1, 0, 1}, api.FourPages: {0, 1, 2, 3}} {
		b.Hard = hard
		for k, want := range pages {
			if got := mapper.Page(b, uint16(0x2000+k*0x400)); got != want {
				t.Errorf("P2.3: example 10: mirroring %d, page %d: %d", hard, k, got)
			}
		}
		if mapper.Page(b, 0xf7ff) != mapper.Page(b, 0x2400) {
			t.Errorf("P2.3: example 10: $F7FF")
		}
	}
}
