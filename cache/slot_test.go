package cache_test

import (
	"math"
	"math/big"
	"math/rand"
	"testing"

	"tandem/api"
	"tandem/cache"
)

// Every size: those between 1 and 65536 make a cache, the others none.
func TestNewSizes(t *testing.T) {
	for _, size := range []int{math.MinInt, -65536, -2, -1, 0, 65537, 65538, 1 << 20, 1 << 32, 1<<32 + 1, math.MaxInt} {
		if c, e := cache.New(size); c != nil || e != api.ErrSize {
			t.Errorf("14.1: New(%d): %v, error %d", size, c, e)
		}
	}
	for _, size := range []int{1, 2, 3, 255, 256, 257, 40503, 65535, 65536} {
		c := opened(t, size)
		holds(t, c)
		marked(t, c)
		missing(t, c, api.Key{})
		store(t, c, 0)
		if n := c.Flush(); n != 0 {
			t.Errorf("14.3: Flush of a new cache: %d", n)
		}
	}
}

// toldSlot is the chapter's sentence, in numbers without a bound.
func toldSlot(k api.Key, size int) int {
	if size < 1 {
		return -1
	}
	n := new(big.Int).Mod(big.NewInt(int64(k.Tag)), big.NewInt(65536)) // Euclidean: never below 0
	n.Mul(n, big.NewInt(40503))
	n.Add(n, big.NewInt(int64(k.PC)))
	return int(n.Mod(n, big.NewInt(int64(size))).Int64())
}

var (
	edgePCs   = []uint16{0, 1, 2, 0xff, 0x100, 0x7ff, 0x800, 0x1fff, 0x2000, 0x6000, 0x7fff, 0x8000, 0x8001, 0xfffe, 0xffff}
	edgeTags  = []int{0, 1, 2, 127, 128, 129, 130, 255, 256, 32767, 32768, 65534, 65535, 65536, 65537, 131071, 131072, 1 << 31, 1 << 40, 1<<62 + 1, math.MaxInt, -1, -2, -127, -128, -129, -32768, -65535, -65536, -65537, -131072, -1 << 31, -1 << 40, math.MinInt, math.MinInt + 1}
	edgeSizes = []int{math.MinInt, -65536, -1, 0, 1, 2, 3, 4, 5, 7, 16, 100, 255, 256, 257, 1000, 40502, 40503, 40504, 65521, 65535, 65536, 65537, 1 << 20, 1 << 31, 1<<31 + 11, 1 << 32, 1 << 40, math.MaxInt}
)

// Slot at every edge, and for any keys and sizes.
func TestSlot(t *testing.T) {
	ask := func(k api.Key, size int) {
		t.Helper()
		if got, want := cache.Slot(k, size), toldSlot(k, size); got != want {
			t.Fatalf("14.1: Slot(%v, %d): %d, want %d", k, size, got, want)
		}
	}
	for _, pc := range edgePCs {
		for _, tag := range edgeTags {
			for _, size := range edgeSizes {
				ask(key(pc, tag), size)
			}
		}
	}
	r := rand.New(rand.NewSource(1401))
	for range 100000 {
		ask(key(uint16(r.Uint32()), some(r, r.Intn(130), int(r.Uint64()), r.Intn(1<<18)-1<<17)), some(r, 1+r.Intn(65536), 1+r.Intn(20), 1+r.Intn(math.MaxInt)))
	}
}

// A cache has its blocks where Slot says: a key of the same slot drives another out, one of another slot does not.
func TestSlotIsWhereItLies(t *testing.T) {
	r := rand.New(rand.NewSource(1402))
	for _, size := range []int{1, 2, 3, 4, 5, 16, 255, 256, 1000, 65535, 65536} {
		for range 300 {
			a, b := key(some(r, edgePCs...), some(r, edgeTags...)), key(some(r, edgePCs...), some(r, edgeTags...))
			if r.Intn(2) == 0 {
				b.PC = a.PC + uint16(size)
			}
			c := opened(t, size)
			put(t, c, block(a, 1), 0)
			if a != b && toldSlot(a, size) == toldSlot(b, size) {
				evict(t, c, block(b, 1), 0, a)
				missing(t, c, a)
			} else {
				put(t, c, block(b, 1), 0)
			}
			if _, ok := c.Get(b); !ok {
				t.Fatalf("14.2: a cache of %d: %v isn't there", size, b)
			}
		}
	}
}

// Tags that are the same modulo 65536 are different keys of one slot.
func TestTagsAreWhole(t *testing.T) {
	c := opened(t, 65536)
	put(t, c, block(key(5, -1), 1), 0)
	missing(t, c, key(5, 65535))
	evict(t, c, block(key(5, 65535), 1), 0, key(5, -1))
	evict(t, c, block(key(5, math.MaxInt), 1), 0, key(5, 65535))
	holds(t, c, key(5, math.MaxInt))
}

// Every slot may be full.
func TestFull(t *testing.T) {
	for _, size := range []int{1, 2, 7, 256, 65536} {
		c := opened(t, size)
		for pc := range size {
			put(t, c, block(key(uint16(pc), 0), 2), pc)
		}
		if c.Len() != size || len(c.Keys()) != size {
			t.Fatalf("14.1: a full cache of %d slots: Len %d, %d keys", size, c.Len(), len(c.Keys()))
		}
		for pc := range size {
			evict(t, c, block(key(uint16(pc), size), 2), pc, key(uint16((pc+40503*size)%size), 0))
			if c.Len() != size {
				t.Fatalf("P13: a cache of %d slots: Len %d", size, c.Len())
			}
			if size == 65536 && pc == 1000 {
				break
			}
		}
		if n := c.Flush(); n != size {
			t.Fatalf("14.3: Flush of a full cache of %d slots: %d", size, n)
		}
		holds(t, c)
	}
}
