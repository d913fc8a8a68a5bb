package cache_test

import (
	"math/rand"
	"slices"
	"testing"

	"tandem/api"
	"tandem/cache"
	"tandem/xlate"
)

// window is the bytes of RAM from an address on to the end of its window.
func window(ram *[2048]uint8, pc uint16) []byte { return slices.Clone(ram[pc%2048:]) }

// fresh asks of every block whether its bytes still lie where it was made.
func fresh(t *testing.T, c *cache.Cache, ram *[2048]uint8) {
	t.Helper()
	for _, k := range c.Keys() {
		b, _ := c.Get(k)
		if code := window(ram, k.PC); len(b.Bytes) > len(code) || b.Bytes != string(code[:len(b.Bytes)]) {
			t.Fatalf("P12: the block at $%04X is stale", k.PC)
		}
	}
}

// Blocks of code in RAM: while every store is told of, none of them is stale, and a block goes just if a byte of its own was stored to.
func TestNoStaleCode(t *testing.T) {
	r := rand.New(rand.NewSource(1480))
	dropped, kept := 0, 0
	for _, size := range []int{1, 16, 256, 65536} {
		c := opened(t, size)
		var ram [2048]uint8
		for i := range ram {
			ram[i] = uint8(r.Uint32())
		}
		for n := range 8000 {
			pc := uint16(r.Intn(0x2000)) // four times the same memory
			if b, e := xlate.Translate(pc, api.TagRam, window(&ram, pc), 1+r.Intn(api.MaxLimit)); e == api.OK && b.Insts > 0 {
				c.Put(b, int(pc%2048))
			}
			place, ahead := r.Intn(2048), c.Len()
			ram[place]++
			for _, k := range c.Store(place) {
				dropped++
				if int(k.PC%2048) > place {
					t.Fatalf("14.3: a store to $%04X threw the block at $%04X away", place, k.PC)
				}
			}
			kept += min(ahead, c.Len())
			if n%200 == 0 {
				fresh(t, c, &ram)
			}
		}
		fresh(t, c, &ram)
	}
	if dropped < 1000 || kept < 1000 {
		t.Errorf("%d blocks were thrown away and %d kept: too few to tell", dropped, kept)
	}
}
