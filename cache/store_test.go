package cache_test

import (
	"math"
	"slices"
	"testing"

	"tandem/api"
)

// Blocks that cover one place go together, and their keys come in order, in whichever order they were put.
func TestStoreOrder(t *testing.T) {
	want := []api.Key{key(0, math.MinInt+3), key(0, -1), key(0, 0), key(0, 129), key(1, math.MinInt+3), key(1, -70000), key(1, -1), key(1, 1), key(1, 128), key(1, math.MaxInt-9), key(0x7fff, 5), key(0x8000, -5), key(0xffff, -1), key(0xffff, 7)}
	for turn := range want {
		c := opened(t, 65521)
		l := slices.Concat(want[turn:], want[:turn])
		if turn%2 == 1 {
			slices.Reverse(l)
		}
		for i, k := range l {
			put(t, c, block(k, 20), 1000+i)
		}
		holds(t, c, want...)
		store(t, c, 1000+len(want), want...)
		holds(t, c)
		marked(t, c)
	}
}

// A store throws away what covers its place, and nothing else of the page.
func TestStoreOfAPage(t *testing.T) {
	for place := 510; place < 800; place++ {
		c := opened(t, 256)
		var want, rest []api.Key
		for i := range 64 {
			k, at, bytes := key(uint16(i), 0), 512+3*i, 1+i%5
			put(t, c, block(k, bytes), at)
			if place >= at && place < at+bytes {
				want = append(want, k)
			} else {
				rest = append(rest, k)
			}
		}
		store(t, c, place, want...)
		holds(t, c, rest...)
		store(t, c, place)
	}
}

// A store to a page that isn't marked throws away nothing; one to each place of a block's pages throws it away just where it lies.
func TestMarksAndStores(t *testing.T) {
	for _, bytes := range []int{1, 2, 100, 256, 257, 600} {
		for place := range 1400 {
			c := opened(t, 1)
			put(t, c, block(lone, bytes), 510)
			m := c.Marked(place / 256)
			if l := c.Store(place); !m && len(l) > 0 {
				t.Fatalf("14.3: Store(%d) throws away %v, and the page isn't marked", place, l)
			} else if (len(l) == 1) != (place >= 510 && place < 510+bytes) {
				t.Fatalf("14.3: Store(%d), %d bytes at 510: %v", place, bytes, l)
			}
		}
	}
}

// A block that was evicted or replaced is not thrown away a second time, and a slot that was emptied is free.
func TestGoneOnce(t *testing.T) {
	c := opened(t, 4)
	a, b := key(4, 0), key(8, 0)
	put(t, c, block(a, 4), 100)
	evict(t, c, block(b, 4), 102, a)
	store(t, c, 100)
	store(t, c, 101)
	store(t, c, 102, b)
	store(t, c, 102)
	put(t, c, block(a, 4), 100)
	put(t, c, block(a, 4), 103)
	store(t, c, 102)
	store(t, c, 106, a)
	put(t, c, block(b, 4), 100)
	holds(t, c, b)
}

// Flush, and on from there as from a new cache.
func TestFlush(t *testing.T) {
	c := opened(t, 16)
	for round := range 5 {
		for i := range round * 3 {
			put(t, c, block(key(uint16(i), round), 10), 250*i)
		}
		for i, want := range []int{round * 3, 0, 0} {
			if n := c.Flush(); n != want {
				t.Fatalf("14.3: round %d: Flush %d: %d, want %d", round, i, n, want)
			}
			holds(t, c)
			marked(t, c)
		}
		for i := range round * 3 {
			missing(t, c, key(uint16(i), round))
			store(t, c, 250*i)
		}
	}
}

// Asking changes nothing.
func TestAsking(t *testing.T) {
	c := opened(t, 16)
	for i := range 9 {
		put(t, c, block(key(uint16(i), 3), 10), 7*i)
	}
	for range 3 {
		if l := c.Keys(); len(l) != 9 || c.Len() != 9 {
			t.Fatalf("14.3: Keys %v, Len %d", l, c.Len())
		}
		for i := range 9 {
			if b, ok := c.Get(key(uint16(i), 3)); !ok || !sameBlock(b, block(key(uint16(i), 3), 10)) {
				t.Fatalf("14.2: Get of block %d: %+v", i, b)
			}
			missing(t, c, key(uint16(i), 4))
		}
		marked(t, c, 0)
		store(t, c, 200)
		store(t, c, -200)
	}
}
