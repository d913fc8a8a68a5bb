package mapper_test

import (
	"math"
	"math/rand"
	"testing"

	"tandem/api"
	"tandem/mapper"
)

// counters goes through every small counter of both submappers, and some great ones.
func counters(t *testing.T, yield func(b api.Board)) {
	t.Helper()
	counts := []uint8{0, 1, 2, 3, 4, 5, 127, 254, 255}
	for _, sub := range subs[4] {
		for _, latch := range counts {
			for _, count := range counts {
				for n := range 8 {
					b := boardOf(t, 4, sub, 2, 0)
					b.IrqLatch, b.IrqCount = latch, count
					b.IrqLoad, b.IrqOn, b.Irq = n&1 != 0, n&2 != 0, n&4 != 0
					if mapper.Valid(b) {
						yield(b)
					}
				}
			}
		}
	}
}

// TestClockOneByOne holds n clocks at once against n single ones, and ToIrq against the first of them that has Irq set.
func TestClockOneByOne(t *testing.T) {
	counters(t, func(b api.Board) {
		c := b
		first := -1
		for n := range 1100 {
			if got := mapper.Clock(b, n); got != c {
				t.Fatalf("P2.6: %+v: %d clocks: %+v, want %+v", b, n, got, c)
			}
			if c.Irq && first < 0 {
				first = n
			}
			c = toldClock(c)
		}
		if got := mapper.ToIrq(b); got != first {
			t.Fatalf("P2.6: %+v: ToIrq %d, want %d", b, got, first)
		}
	})
}

// TestClockParts: a and b clocks are a + b clocks, however many they are.
func TestClockParts(t *testing.T) {
	r := rand.New(rand.NewSource(26))
	counters(t, func(b api.Board) {
		for range 8 {
			n := r.Intn(math.MaxInt)
			m := r.Intn(math.MaxInt - n + 1)
			if got, want := mapper.Clock(mapper.Clock(b, n), m), mapper.Clock(b, n+m); got != want {
				t.Fatalf("P2.6: %+v: %d and %d clocks: %+v, want %+v", b, n, m, got, want)
			}
		}
	})
}

// TestClockGreat: behind the first 0 the counter goes round, so that a great number is a small one.
func TestClockGreat(t *testing.T) {
	counters(t, func(b api.Board) {
		period := int(b.IrqLatch) + 1
		for _, n := range []int{math.MaxInt, math.MaxInt - 1, 1 << 62, 1<<62 + 1, 1 << 32, 1 << 31, 1<<31 - 1} {
			small := 600 + (n-600)%period
			if got, want := mapper.Clock(b, n), mapper.Clock(b, small); got != want {
				t.Fatalf("P2.6: %+v: %d clocks: %+v, want %+v", b, n, got, want)
			}
		}
	})
}

func TestClockNone(t *testing.T) {
	counters(t, func(b api.Board) {
		for _, n := range []int{0, -1, -2, -256, math.MinInt} {
			if got := mapper.Clock(b, n); got != b {
				t.Fatalf("P2.6: %+v: %d clocks: %+v", b, n, got)
			}
		}
	})
	for _, kind := range []int{0, 1, 2, 3, 7} {
		for _, sub := range subs[kind] {
			b := boardOf(t, kind, sub, 2, 1)
			for _, n := range []int{math.MinInt, -1, 0, 1, 2, 255, math.MaxInt} {
				if got := mapper.Clock(b, n); got != b {
					t.Errorf("P2.6: kind %d: %d clocks: %+v", kind, n, got)
				}
			}
			if got := mapper.ToIrq(b); got != -1 {
				t.Errorf("P2.6: kind %d: ToIrq %d", kind, got)
			}
		}
	}
}

func TestToIrq(t *testing.T) {
	for _, row := range []struct {
		sub          int
		latch, count uint8
		load, on     bool
		irq          bool
		want         int
	}{
		{0, 3, 0, true, true, false, 4}, {0, 3, 0, false, true, false, 4}, {0, 3, 2, false, true, false, 2}, {0, 3, 200, false, true, false, 200},
		{0, 255, 0, true, true, false, 256}, {0, 0, 0, false, true, false, 1}, {0, 0, 0, true, true, false, 1}, {0, 0, 1, false, true, false, 1},
		{0, 3, 2, false, false, false, -1}, {0, 3, 2, false, true, true, 0}, {4, 3, 2, false, true, true, 0}, {4, 3, 2, false, false, false, -1},
		{4, 3, 0, true, true, false, 4}, {4, 3, 0, false, true, false, 4}, {4, 0, 0, false, true, false, -1}, {4, 0, 0, true, true, false, 1},
		{4, 0, 0, false, true, true, 0}, {4, 0, 1, false, true, false, 1}, {4, 0, 9, false, true, false, 9}, {4, 255, 255, false, true, false, 255},
	} {
		b := boardOf(t, 4, row.sub, 2, 0)
		b.IrqLatch, b.IrqCount, b.IrqLoad, b.IrqOn, b.Irq = row.latch, row.count, row.load, row.on, row.irq
		if got := mapper.ToIrq(b); got != row.want {
			t.Errorf("P2.6: %+v: ToIrq %d", row, got)
		}
	}
}

// TestClockLeaves: a clock changes the counter alone.
func TestClockLeaves(t *testing.T) {
	r := rand.New(rand.NewSource(62))
	for range 500 {
		b := anyBoard(r, 4)
		c := mapper.Clock(b, 1+r.Intn(600))
		c.IrqCount, c.IrqLoad, c.Irq = b.IrqCount, b.IrqLoad, b.Irq
		if c != b {
			t.Fatalf("P2.5, P2.6: a clock changes %+v to %+v", b, c)
		}
	}
}
