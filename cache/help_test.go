package cache_test

import (
	"fmt"
	"math/rand"
	"slices"
	"testing"

	"tandem/api"
	"tandem/cache"
)

// far is the last place at which a block that covers something may begin.
const far = 1 << 40

// opened is an empty cache.
func opened(t *testing.T, size int) *cache.Cache {
	t.Helper()
	c, e := cache.New(size)
	if e != api.OK || c == nil {
		t.Fatalf("14.1: New(%d): %v, error %d", size, c, e)
	}
	return c
}

// key is a key, in short.
func key(pc uint16, tag int) api.Key { return api.Key{PC: pc, Tag: tag} }

// block is a block with so many bytes, all of whose fields hang on its key and on what it is told.
func block(k api.Key, bytes int) api.Block {
	b := api.Block{PC: k.PC, Tag: k.Tag, Bytes: string(slices.Repeat([]byte{uint8(k.PC)}, bytes)), Insts: bytes, Least: 2 * bytes, Most: 3 * bytes}
	for i := range bytes % 9 {
		b.Ops = append(b.Ops, api.Micro{Kind: api.MicroAlu, Op: api.OpINX, Mode: api.ModeImp, Arg: k.PC, Flags: uint8(bytes), Inst: i, Cycle: 2 * i})
	}
	return b
}

// sameBlock tells whether two blocks are the same in every field.
func sameBlock(a, b api.Block) bool {
	return a.PC == b.PC && a.Tag == b.Tag && a.Bytes == b.Bytes && a.Insts == b.Insts && slices.Equal(a.Ops, b.Ops) && a.Least == b.Least && a.Most == b.Most
}

// put puts a block that must not drive out another key.
func put(t *testing.T, c *cache.Cache, b api.Block, place int) {
	t.Helper()
	if k, gone := c.Put(b, place); gone || k != (api.Key{}) {
		t.Fatalf("14.2: Put of {%#x %d} at %d: %v %v, want nothing", b.PC, b.Tag, place, k, gone)
	}
}

// evict puts a block that must drive out another key.
func evict(t *testing.T, c *cache.Cache, b api.Block, place int, want api.Key) {
	t.Helper()
	if k, gone := c.Put(b, place); !gone || k != want {
		t.Fatalf("14.2: Put of {%#x %d} at %d: %v %v, want %v", b.PC, b.Tag, place, k, gone, want)
	}
}

// holds asks for all that a cache tells of what it holds.
func holds(t *testing.T, c *cache.Cache, want ...api.Key) {
	t.Helper()
	if l := c.Keys(); !slices.Equal(l, want) {
		t.Fatalf("14.3: Keys: %v, want %v", l, want)
	}
	if n := c.Len(); n != len(want) {
		t.Fatalf("14.3: Len: %d, want %d", n, len(want))
	}
	for _, k := range want {
		if b, ok := c.Get(k); !ok || b.PC != k.PC || b.Tag != k.Tag {
			t.Fatalf("14.2: Get(%v): %v, and its block has {%#x %d}", k, ok, b.PC, b.Tag)
		}
	}
}

// store tells of a store, and asks which keys it throws away.
func store(t *testing.T, c *cache.Cache, place int, want ...api.Key) {
	t.Helper()
	ahead := c.Len()
	if l := c.Store(place); !slices.Equal(l, want) {
		t.Fatalf("14.3: Store(%d): %v, want %v", place, l, want)
	}
	if n := c.Len(); n != ahead-len(want) {
		t.Fatalf("14.3: behind Store(%d): Len %d, want %d", place, n, ahead-len(want))
	}
	for _, k := range want {
		missing(t, c, k)
	}
}

// missing asks for a key that is not there.
func missing(t *testing.T, c *cache.Cache, k api.Key) {
	t.Helper()
	if b, ok := c.Get(k); ok || !sameBlock(b, api.Block{}) || b.Ops != nil {
		t.Fatalf("14.2: Get(%v): %+v %v, want nothing", k, b, ok)
	}
}

// marked asks which of the pages are marked: those that are listed, and none beside them of all that lie near.
func marked(t *testing.T, c *cache.Cache, pages ...int) {
	t.Helper()
	near := []int{-1, 0, 1, 2, 3, 4, far/256 - 1, far / 256, far/256 + 1, 1 << 34, 1<<34 + 1}
	for _, p := range pages {
		near = append(near, p-1, p, p+1)
	}
	for _, p := range near {
		if got, want := c.Marked(p), slices.Contains(pages, p); got != want {
			t.Fatalf("14.3: Marked(%d): %v, want %v", p, got, want)
		}
	}
}

// some is one of a list.
func some[T any](r *rand.Rand, list ...T) T { return list[r.Intn(len(list))] }

// calm tells of a panic.
func calm(t *testing.T, what string, do func()) {
	t.Helper()
	defer func() {
		if p := recover(); p != nil {
			t.Fatalf("P1: %s: %v", what, p)
		}
	}()
	do()
}

// short is keys as a short text.
func short(keys []api.Key) string {
	if len(keys) > 8 {
		return fmt.Sprintf("%v and %d more", keys[:8], len(keys)-8)
	}
	return fmt.Sprint(keys)
}
