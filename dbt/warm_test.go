package dbt_test

import (
	"math"
	"math/rand"
	"slices"
	"testing"

	"tandem/api"
	"tandem/dbt"
)

// Errors in their order; with one of them nothing has happened.
func TestWarmRefused(t *testing.T) {
	for _, x := range []struct {
		n, workers int
		want       api.Errno
	}{
		{65537, 1, api.ErrLong}, {65537, 0, api.ErrLong}, {65537, 17, api.ErrLong}, {100000, -1, api.ErrLong},
		{65536, 0, api.ErrArg}, {0, 0, api.ErrArg}, {1, 0, api.ErrArg}, {1, -1, api.ErrArg}, {1, 17, api.ErrArg}, {0, 17, api.ErrArg},
		{3, math.MaxInt, api.ErrArg}, {3, math.MinInt, api.ErrArg},
	} {
		m := behindReset(t, counting...)
		passes(t, "ahead", m, 7)
		was, counters := m.State(), m.Stats()
		pcs := slices.Repeat([]uint16{0x8000}, x.n)
		warms(t, "P15.5", m, pcs, x.workers, 0, x.want)
		sameState(t, "P15.5: a warming that is refused", m, was)
		stats(t, "P15.5: a warming that is refused", m, counters)
		keys(t, "P15.5: a warming that is refused", m, key(0x8000, 0))
	}
}

// What is put: one for each pc that has a block, of the same key too.
func TestWarm(t *testing.T) {
	for workers := 1; workers <= api.MaxWork; workers++ {
		m := begun(t, console(counting...), 4096, 8)
		was := m.State()
		warms(t, "P15.5: none", m, nil, workers, 0, api.OK)
		warms(t, "P15.5: none", m, []uint16{}, workers, 0, api.OK)
		warms(t, "P15.5: no tag", m, []uint16{0x2000, 0x3fff, 0x4014, 0x5fff}, workers, 0, api.OK)
		warms(t, "P15.5: empty blocks", m, []uint16{0x0000, 0x6000, 0xffff, 0x9fff, 0x07ff}, workers, 0, api.OK) // BRKs, and windows' ends
		keys(t, "P15.5: none", m)
		pcs := []uint16{0x8005, 0x2002, 0x8000, 0x0200, 0x8005, 0x8002, 0x8000}
		warms(t, "P15.5: some", m, pcs, workers, 5, api.OK)
		keys(t, "P15.5: some", m, key(0x8000, 0), key(0x8002, 0), key(0x8005, 0))
		warms(t, "P15.5: twice", m, pcs, workers, 5, api.OK)
		stats(t, "P15.5: no counter but Evicted", m, api.Stats{})
		sameState(t, "P15.5: no cycle goes by", m, was)
		entries(t, "P15.5: no entry", m)
		passes(t, "the reset", m, 7, 7, 5)
		stats(t, "P15.5: what was put is there", m, api.Stats{Steps: 1, Blocks: 2, Hits: 2})
	}
}

// Put in their order: with few slots the last one of a slot stays, and each that loses it counts.
func TestWarmOrder(t *testing.T) {
	for workers := 1; workers <= api.MaxWork; workers++ {
		m := begun(t, console(), 1, 8)
		warms(t, "P15.5: one slot", m, []uint16{0x8000, 0x8000, 0x8001, 0x8001, 0x9000, 0x2000, 0x8000}, workers, 6, api.OK)
		keys(t, "P15.5: one slot", m, key(0x8000, 0))
		stats(t, "P15.5: one slot", m, api.Stats{Evicted: 3})
		m = begun(t, console(), 16, 8)
		pcs := everywhere()[0x8000:0x9000]
		warms(t, "P15.5: 16 slots", m, pcs, workers, 4096, api.OK)
		stats(t, "P15.5: 16 slots", m, api.Stats{Evicted: 4096 - 16})
		var want []api.Key
		for _, pc := range pcs[4096-16:] {
			want = append(want, key(pc, 0))
		}
		keys(t, "P15.5: 16 slots", m, want...)
	}
}

// Blocks at the ends of windows, where one byte more or less decides: all addresses, beside the second form.
func TestWarmEverywhere(t *testing.T) {
	r := rand.New(rand.NewSource(1510))
	for i, c := range []api.Cart{carts()[0], carts()[3], carts()[6]} {
		g := beside(t, c, anyState(r, c), []int{65536, 1000, 65535}[i], []int{64, 2, 7}[i])
		pcs := everywhere()
		r.Shuffle(len(pcs), func(i, k int) { pcs[i], pcs[k] = pcs[k], pcs[i] })
		g.warm("all addresses", pcs, 1+(i*5)%api.MaxWork)
		g.holds("all addresses")
		for range 30 {
			g.pass("all addresses", 1000)
		}
		g.holds("all addresses")
	}
}

// The outcome does not depend on how many work.
func TestWarmByMany(t *testing.T) {
	r := rand.New(rand.NewSource(1511))
	for _, c := range carts()[4:8] {
		s := anyState(r, c)
		size, limit := anySize(r), anyLimit(r)
		pcs := make([]uint16, some(r, 1, 15, 16, 17, 1023, 1024, 1025, 3000))
		for i := range pcs {
			pcs[i] = some(r, anyTarget(r), uint16(r.Intn(0x10000)))
		}
		kept := slices.Clone(pcs)
		one := from(t, c, s, size, limit)
		n, _ := one.Warm(pcs, 1)
		for workers := 1; workers <= api.MaxWork; workers++ {
			m := from(t, c, s, size, limit)
			warms(t, "P15.5: by many", m, pcs, workers, n, api.OK)
			keys(t, "P15.5: by many", m, one.Keys()...)
			stats(t, "P15.5: by many", m, one.Stats())
			sameState(t, "P15.5: by many", m, s)
			other := from(t, c, s, size, limit)
			other.Warm(pcs, 1)
			for range 40 {
				pass(t, "P15.5: by many", m, 1000, other.Pass(1000))
			}
			entries(t, "P15.5: by many", m, other.Entries()...)
		}
		if !slices.Equal(pcs, kept) {
			t.Fatal("P2: Warm has changed its list")
		}
	}
}

// As many as may be.
func TestWarmMost(t *testing.T) {
	m := begun(t, console(), 65536, 64)
	warms(t, "P15.5: 65536 of one", m, slices.Repeat([]uint16{0x8000}, 65536), 16, 65536, api.OK)
	keys(t, "P15.5: 65536 of one", m, key(0x8000, 0))
	stats(t, "P15.5: 65536 of one", m, api.Stats{})
	warms(t, "P15.5: 65536 of none", m, slices.Repeat([]uint16{0x2000}, 65536), 1, 0, api.OK)
	// RAM and work RAM are full of BRKs, three of which stand among the vectors; the last bytes of the four windows have none behind them.
	warms(t, "P15.5: all addresses", m, everywhere(), 4, 32768-3-4, api.OK)
	if l := m.Keys(); len(l) != 32768-3-4 || m.Stats() != (api.Stats{}) {
		t.Errorf("P15.5: all addresses: %d keys, %+v", len(l), m.Stats())
	}
}

// A warming that takes the place of blocks which are there: the new ones are as the memory is now, and cover what they lie on.
func TestWarmAnew(t *testing.T) {
	c := console(0xee, 0x01, 0x03, 0x60) // INC $0301, RTS
	g := beside(t, c, standing(t, c, func(s *api.State) {
		copy(s.Mem.Ram[0x300:], []uint8{0xa9, 0x05, 0x4c, 0x00, 0x80})
		s.Mem.Ram[0x1fe], s.Mem.Ram[0x1ff] = 0xff, 0x02 // RTS to $0300
	}), 256, 8)
	for range 3 {
		g.warm("P15.5: anew", []uint16{0x0300}, 2)
	}
	g.pass("P15.8: anew", 100) // INC throws it away
	keys(t, "P15.8: anew", g.m, key(0x8000, 0))
	g.warm("P15.5: anew", []uint16{0x0300, 0x0300}, 2)
	g.pass("P15.8: anew", 100)
	if l := g.all; len(l) != 2 || !l[1].Hit || l[1].Bytes != "\xa9\x06\x4c\x00\x80" {
		t.Errorf("P15.8: anew: %+v", l)
	}
}

// Two machines that are warmed at the same time.
func TestWarmSideBySide(t *testing.T) {
	c := carts()[6]
	want := begun(t, c, 4096, 16)
	want.Warm(everywhere()[0x7000:0xb000], 1)
	done := make(chan *dbt.Machine)
	for i := range 4 {
		go func() {
			m, _ := dbt.New(c, 4096, 16)
			m.Warm(everywhere()[0x7000:0xb000], 1+3*i)
			done <- m
		}()
	}
	for range 4 {
		m := <-done
		keys(t, "P2: side by side", m, want.Keys()...)
		stats(t, "P2: side by side", m, want.Stats())
	}
}
