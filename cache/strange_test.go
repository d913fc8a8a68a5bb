package cache_test

import (
	"math"
	"math/rand"
	"strings"
	"testing"

	"tandem/api"
)

// numbers is numbers that fit no field.
var numbers = []int{0, 1, 2, 64, 65, 127, 128, 129, 130, 255, 256, 65535, 65536, 1 << 31, 1 << 34, far - 1, far, far + 1, 1 << 62, math.MaxInt - 1, math.MaxInt, -1, -2, -256, -65536, -far, math.MinInt + 1, math.MinInt}

// strange is a block that no Translate made.
func strange(r *rand.Rand) api.Block {
	b := api.Block{PC: some(r, edgePCs...), Tag: some(r, numbers...), Insts: some(r, numbers...), Least: some(r, numbers...), Most: some(r, numbers...)}
	b.Bytes = strings.Repeat("\xff", some(r, 0, 1, 2, 255, 256, 257, 5000, r.Intn(1000)))
	for range some(r, 0, 1, 2, 300) {
		b.Ops = append(b.Ops, api.Micro{Kind: api.MicroKind(r.Intn(256)), Op: api.Op(some(r, numbers...)), Mode: api.Mode(some(r, numbers...)), Arg: uint16(r.Uint32()), Flags: uint8(r.Uint32()), Inst: some(r, numbers...), Cycle: some(r, numbers...)})
	}
	return b
}

// Blocks of any fields, at any places, and any other numbers: every call ends and none panics. The cache doesn't look into a block, so it keeps these like any others.
func TestStrangeBlocks(t *testing.T) {
	r := rand.New(rand.NewSource(1470))
	for _, size := range []int{1, 2, 7, 256, 65536} {
		c, w := opened(t, size), &told{size: size}
		for range 1500 {
			calm(t, "a block of anything", func() {
				b, place := strange(r), some(r, numbers...)
				wantKey, wantGone := w.put(b, place)
				if k, gone := c.Put(b, place); k != wantKey || gone != wantGone {
					t.Fatalf("14.2: Put of {%#x %d}: %v %v, want %v %v", b.PC, b.Tag, k, gone, wantKey, wantGone)
				}
				if got, ok := c.Get(key(b.PC, b.Tag)); !ok || !sameBlock(got, b) {
					t.Fatalf("14.2: Get of {%#x %d}: %v", b.PC, b.Tag, ok)
				}
				c.Get(key(some(r, edgePCs...), some(r, numbers...)))
				c.Marked(some(r, numbers...))
				if r.Intn(8) == 0 {
					place := some(r, numbers...)
					c.Store(place)
					w.store(place)
				}
			})
		}
		holds(t, c, w.keys()...)
	}
}

// A block with many more bytes than any code has.
func TestHugeBlock(t *testing.T) {
	c := opened(t, 2)
	calm(t, "a huge block", func() {
		b := api.Block{PC: 1, Bytes: strings.Repeat("\xea", 1<<24), Ops: make([]api.Micro, 1<<16)}
		put(t, c, b, 300)
		for _, page := range []int{1, 2, 1000, (300 + 1<<24 - 1) / 256} {
			if !c.Marked(page) {
				t.Errorf("14.3: Marked(%d): false", page)
			}
		}
		put(t, c, b, far)
		store(t, c, 300)
		store(t, c, far+1<<24)
		store(t, c, far+1<<24-1, key(1, 0))
		marked(t, c)
	})
}
