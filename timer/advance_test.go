package timer_test

import (
	"math/rand"
	"testing"

	"tandem/api"
	"tandem/timer"
)

func TestAdvanceNone(t *testing.T) {
	r := rand.New(rand.NewSource(63))
	for range 2000 {
		c := anyValid(r)
		for _, n := range []int{0, -1, -2, -29830, -1 << 63} {
			same(t, "P6.3: Advance by no cycles or fewer", timer.Advance(c, n), c)
		}
		same(t, "P6.3: Advance by 1", timer.Advance(c, 1), timer.Tick(c))
	}
}

// asTold holds Advance by each number of cycles up to n against the chapter's Ticks.
func asTold(t *testing.T, c api.Clock, n int) {
	t.Helper()
	want := open(c)
	for k := 1; k <= n; k++ {
		want.tick()
		if got := timer.Advance(c, k); got != want.shut() {
			t.Fatalf("P6.3: Advance(%+v, %d)\n got %+v\nwant %+v", c, k, got, want.shut())
		}
	}
}

// TestAdvanceRounds goes through every number of cycles of two rounds and more, with timers of each divider beside.
func TestAdvanceRounds(t *testing.T) {
	for k, c := range []api.Clock{
		{},
		{Five: true, Beats: 63},
		{At: 37281, Inhibit: true, Beats: 60},
		{At: 7457, Wait: 3, Beats: 63},
		{At: 29826, Wait: 4, Five: true},
		{At: 30000, Wait: 2, Frame: true},
	} {
		for _, latch := range []uint16{0, 7, 99} {
			c.Latch, c.Count = latch, 3*latch
			c.Ctl = ctlOf(k%4, 1)
			asTold(t, c, 80000)
		}
	}
}

func TestAdvanceSequencers(t *testing.T) {
	for c := range eachSequencer {
		asTold(t, c, 12)
		want := open(c)
		done := 0
		for _, n := range []int{7456, 7457, 7458, 7461, 29826, 29827, 29828, 29829, 29830, 29831, 29832, 29834, 37281, 37282, 37283, 37286, 59660, 74564} {
			for ; done < n; done++ {
				want.tickSequencer()
			}
			same(t, "P6.3: a sequencer at an edge", timer.Advance(c, n), want.shut())
		}
	}
}

func TestAdvanceTimers(t *testing.T) {
	for c := range eachTimer {
		if c.Latch < 65535 && c.Count < 65535 {
			asTold(t, c, 3*256*4+3)
			continue
		}
		asTold(t, c, 300)
	}
}

// TestAdvanceLatch: whole periods of the longest timers, and one cycle more or less, by hand.
func TestAdvanceLatch(t *testing.T) {
	for k, d := range dividers {
		round := 65536 * d
		last := uint16(d - 1)
		c := api.Clock{Latch: 65535, Count: 65535, Ctl: ctlOf(k, 1)}
		for _, row := range []struct {
			n    int
			want api.Clock
		}{
			{round - 1, api.Clock{Pre: last}},
			{round, api.Clock{Count: 65535, Flag: true}},
			{2*round - 1, api.Clock{Pre: last, Flag: true}},
			{2 * round, api.Clock{Count: 65535, Flag: true, Over: true}},
			{2*round + d, api.Clock{Count: 65534, Flag: true, Over: true}},
			{1000*round - 1, api.Clock{Pre: last, Flag: true, Over: true}},
			{1000 * round, api.Clock{Count: 65535, Flag: true, Over: true}},
		} {
			row.want.Latch, row.want.Ctl = c.Latch, c.Ctl
			same(t, "P6.3: whole periods of a latch of 65535", timerOf(timer.Advance(c, row.n)), row.want)
		}
		once := c
		once.Ctl |= 4
		for _, n := range []int{round, round + 1, 2 * round, 5 * round, greatest} {
			want := api.Clock{Latch: 65535, Count: 65535, Ctl: once.Ctl - 1, Flag: true}
			same(t, "P6.3: ONCE with a latch of 65535", timerOf(timer.Advance(once, n)), want)
		}
		short := api.Clock{Latch: 0, Count: 65535, Pre: last, Ctl: ctlOf(k, 3)}
		first := 65535*d + 1
		want := api.Clock{Ctl: short.Ctl, Pre: last}
		same(t, "P6.3: a Count of 65535", timerOf(timer.Advance(short, first-1)), want)
		want = api.Clock{Ctl: short.Ctl, Flag: true}
		same(t, "P6.3: a Count of 65535", timerOf(timer.Advance(short, first)), want)
		want.Over = true
		same(t, "P6.3: a Count of 65535, and a latch of 0", timerOf(timer.Advance(short, first+d)), want)
	}
}

// timerOf is a clock without its sequencer.
func timerOf(c api.Clock) api.Clock {
	c.Five, c.Inhibit, c.Frame, c.At, c.Wait, c.Beats = false, false, false, 0, 0, 0
	return c
}

// TestAdvanceGreatest: 2^63 - 1 is 29830 * 309197855744377 + 9897, 37282 * 247394775946965 + 26677, and 10 * 922337203685477580 + 7.
func TestAdvanceGreatest(t *testing.T) {
	for _, row := range []struct{ from, to api.Clock }{
		{api.Clock{}, api.Clock{At: 9897, Frame: true, Beats: 4*(309197855744377%16) + 1}},
		{api.Clock{Inhibit: true}, api.Clock{Inhibit: true, At: 9897, Beats: 4*(309197855744377%16) + 1}},
		{api.Clock{Five: true}, api.Clock{Five: true, At: 26677, Beats: 4*(247394775946965%16) + 3}},
		{api.Clock{At: 37281}, api.Clock{At: 9896, Frame: true, Beats: 4*(309197855744377%16) + 1}},
		{api.Clock{Wait: 4}, api.Clock{At: 9893, Frame: true, Beats: 4*(309197855744377%16) + 1}},
		{api.Clock{Five: true, Wait: 3}, api.Clock{Five: true, At: 26674, Beats: 4*(247394775946965%16) + 4}},
	} {
		same(t, "P6.3: the sequencer by 2^63 - 1", timer.Advance(row.from, greatest), row.to)
	}
	for _, row := range []struct{ from, to api.Clock }{
		{api.Clock{Ctl: 1, Latch: 9, Count: 9}, api.Clock{Ctl: 1, Latch: 9, Count: 2, Flag: true, Over: true}},
		{api.Clock{Ctl: 1}, api.Clock{Ctl: 1, Flag: true, Over: true}},
		{api.Clock{Ctl: 5}, api.Clock{Ctl: 4, Flag: true}},
		{api.Clock{Ctl: 5, Latch: 6, Count: 9, Flag: true}, api.Clock{Ctl: 4, Latch: 6, Count: 6, Flag: true, Over: true}},
		{api.Clock{Ctl: 9, Latch: 1}, api.Clock{Ctl: 9, Latch: 1, Pre: 7, Count: 1, Flag: true, Over: true}},
		{api.Clock{Ctl: 25, Latch: 65535, Count: 65535}, api.Clock{Ctl: 25, Latch: 65535, Pre: 255, Flag: true, Over: true}},
		{api.Clock{Ctl: 30, Latch: 65535, Count: 65535, Pre: 255}, api.Clock{Ctl: 30, Latch: 65535, Count: 65535, Pre: 255}},
	} {
		same(t, "P6.3: the timer by 2^63 - 1", timerOf(timer.Advance(row.from, greatest)), row.to)
	}
}

// TestAdvanceSums: a and then b cycles are a + b cycles, for all sizes.
func TestAdvanceSums(t *testing.T) {
	r := rand.New(rand.NewSource(630))
	for range 300000 {
		c := anyValid(r)
		a := int(r.Uint64() >> (1 + r.Intn(63)))
		b := int(r.Uint64() >> (1 + r.Intn(63)))
		if b > greatest-a {
			b = greatest - a
		}
		got, want := timer.Advance(timer.Advance(c, a), b), timer.Advance(c, a+b)
		if got != want {
			t.Fatalf("P6.3: %+v by %d and by %d\n got %+v\nwant %+v", c, a, b, got, want)
		}
	}
}

// TestAdvanceFar holds great numbers of cycles against Ticks: behind its first round a clock comes back every so often.
func TestAdvanceFar(t *testing.T) {
	r := rand.New(rand.NewSource(631))
	for range 30 {
		c := anyValid(r)
		c.Ctl &= 0x0f
		c.Latch, c.Count, c.Pre = uint16(some(r, 0, 1)), uint16(r.Intn(100)), 0
		round := 29830 * 16
		if c.Five {
			round = 37282 * 16
		}
		n := int(r.Uint64() >> (1 + r.Intn(40)))
		near := n
		if n > 2*round {
			near = round + n%round
		}
		want := open(c)
		for range near {
			want.tick()
		}
		if got := timer.Advance(c, n); got != want.shut() {
			t.Fatalf("P6.3: Advance(%+v, %d)\n got %+v\nwant %+v", c, n, got, want.shut())
		}
	}
}

// TestAdvanceAnyTold holds Advance by any small number against Ticks.
func TestAdvanceAnyTold(t *testing.T) {
	r := rand.New(rand.NewSource(632))
	for range 2000 {
		c := anyValid(r)
		want := open(c)
		n := some(r, r.Intn(20), r.Intn(1000), r.Intn(80000))
		for range n {
			want.tick()
		}
		if got := timer.Advance(c, n); got != want.shut() {
			t.Fatalf("P6.3: Advance(%+v, %d)\n got %+v\nwant %+v", c, n, got, want.shut())
		}
	}
}

// TestAdvanceTime: a call by 2^63 - 1 cycles is no loop over them, so a hundred thousand of them end at once.
func TestAdvanceTime(t *testing.T) {
	c := api.Clock{Ctl: 1, Latch: 3, Wait: 3}
	for range 100000 {
		c = timer.Advance(c, greatest)
	}
	if !c.Over || !c.Frame {
		t.Errorf("P6.3: 100000 times 2^63 - 1 cycles: %+v", c)
	}
}

// TestPeriods: the timer runs out with every (L + 1)d-th Tick, and with no others.
func TestPeriods(t *testing.T) {
	for k, d := range dividers {
		for _, latch := range []int{0, 1, 2, 10} {
			c := api.Clock{Latch: uint16(latch), Count: uint16(latch), Ctl: ctlOf(k, 1)}
			for n := 1; n <= 4*(latch+1)*d+1; n++ {
				c = timer.Tick(c)
				if c.Flag != (n%((latch+1)*d) == 0) {
					t.Fatalf("P6.8: latch %d, divider %d, Tick number %d: Flag %t", latch, d, n, c.Flag)
				}
				_, _, c = timer.Read(c, 0x401b)
			}
			once := api.Clock{Latch: uint16(latch), Count: uint16(latch), Ctl: ctlOf(k, 5)}
			for n := 1; n <= 4*(latch+1)*d+1; n++ {
				once = timer.Tick(once)
				if once.Flag != (n == (latch+1)*d) {
					t.Fatalf("P6.8: ONCE, latch %d, divider %d, Tick number %d: Flag %t", latch, d, n, once.Flag)
				}
				_, _, once = timer.Read(once, 0x401b)
			}
		}
	}
}

// TestBeginsAnew: the interrupts behind a write to $4017, each read away when it has come three times over.
func TestBeginsAnew(t *testing.T) {
	for cycle := range 2 {
		for _, at := range []uint16{0, 1, 7455, 22370, 29822, 29823} {
			c := timer.Write(api.Clock{At: at}, 0x4017, 0x3f, cycle)
			first := 29831 + cycle
			for n := 1; n < 3*29830; n++ {
				c = timer.Tick(c)
				since := (n - first + 29830) % 29830
				comes := n >= first && since < 3
				if c.Frame != comes {
					t.Fatalf("P6.8: written at %d in cycle %d, Tick number %d: Frame %t", at, cycle, n, c.Frame)
				}
				if comes && since == 2 {
					_, _, c = timer.Read(c, 0x4015)
				}
			}
		}
	}
	if c := timer.Write(api.Clock{At: 29824}, 0x4017, 0, 1); !slow(c, 4).Frame {
		t.Error("P6.8: At 29824 in an odd cycle: the old round's interrupt comes yet")
	}
	if c := timer.Write(api.Clock{At: 29824}, 0x4017, 0, 0); slow(c, 4).Frame {
		t.Error("P6.8: At 29824 in an even cycle: no interrupt of the old round")
	}
}
