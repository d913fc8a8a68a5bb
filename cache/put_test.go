package cache_test

import (
	"slices"
	"testing"

	"tandem/api"
	"tandem/cache"
)

// full is a block no two fields of which are alike.
func full() api.Block {
	return api.Block{PC: 0x8123, Tag: 77, Bytes: "\xa9\x05\x69\x03", Insts: 2, Least: 4, Most: 9, Ops: []api.Micro{
		{Kind: api.MicroConst, Op: api.OpLDA, Mode: api.ModeImm, Arg: 5, Inst: 0, Cycle: 0},
		{Kind: api.MicroAlu, Op: api.OpLDA, Mode: api.ModeImm, Inst: 0, Cycle: 0},
		{Kind: api.MicroConst, Op: api.OpADC, Mode: api.ModeImm, Arg: 3, Inst: 1, Cycle: 2},
		{Kind: api.MicroAlu, Op: api.OpADC, Mode: api.ModeImm, Flags: 0xc3, Inst: 1, Cycle: 2},
	}}
}

// same asks for the block as it was put.
func same(t *testing.T, c *cache.Cache, want api.Block) api.Block {
	t.Helper()
	b, ok := c.Get(key(want.PC, want.Tag))
	if !ok || !sameBlock(b, want) {
		t.Fatalf("14.2: Get: %+v %v, want %+v", b, ok, want)
	}
	return b
}

// Get answers every field.
func TestGetFields(t *testing.T) {
	c := opened(t, 3)
	put(t, c, full(), 10240)
	same(t, c, full())
	same(t, c, full())
	for _, k := range []api.Key{{}, key(0x8123, 78), key(0x8124, 77), key(0x8126, 77), key(0x8120, 77), key(0x8123, 77+65536), key(0x8123, 77-65536)} {
		missing(t, c, k)
	}
}

// Lists that were handed in and lists that came out are written over and appended to: the cache has its own.
func TestCopies(t *testing.T) {
	c := opened(t, 3)
	room := make([]api.Micro, 10)
	for i := range room {
		room[i] = api.Micro{Kind: 55}
	}
	in := full()
	copy(room[2:], in.Ops)
	in.Ops = room[2:6] // with spare room behind
	put(t, c, in, 10240)
	for i, o := range room {
		want := api.Micro{Kind: 55}
		if i >= 2 && i < 6 {
			want = full().Ops[i-2]
		}
		if o != want {
			t.Fatalf("P2: Put has changed what it was given: %+v at %d", o, i)
		}
	}
	for i := range room {
		room[i] = api.Micro{Kind: 66}
	}
	same(t, c, full())
	a, b := same(t, c, full()), same(t, c, full())
	for i := range a.Ops {
		a.Ops[i] = api.Micro{Kind: 77}
	}
	whole := a.Ops[:cap(a.Ops)]
	for i := range whole {
		whole[i] = api.Micro{Kind: 88}
	}
	_ = append(a.Ops[:2], api.Micro{Kind: 99})
	if !sameBlock(b, full()) {
		t.Fatalf("P2: two answers of Get share memory: %+v", b)
	}
	_ = append(b.Ops, api.Micro{Kind: 99})
	same(t, c, full())
	for _, o := range room {
		if o.Kind != 66 {
			t.Fatalf("P2: what was handed to Put is handed out by Get: %+v", o)
		}
	}
}

// A block that came out stays as it is, whatever becomes of the one inside.
func TestAnswersStay(t *testing.T) {
	c := opened(t, 1)
	put(t, c, full(), 0)
	b := same(t, c, full())
	other := full()
	other.Ops[0].Arg = 6
	put(t, c, other, 0)
	same(t, c, other)
	evict(t, c, block(key(1, 1), 8), 0, key(0x8123, 77))
	c.Store(0)
	c.Flush()
	put(t, c, block(key(2, 2), 8), 0)
	if !sameBlock(b, full()) {
		t.Errorf("P2: an answer of Get has changed: %+v", b)
	}
}

// Keys' and Store's lists are the asker's own.
func TestListsAreNew(t *testing.T) {
	c := opened(t, 64)
	for i := range 10 {
		put(t, c, block(key(uint16(i), 0), 10), 100)
	}
	spoil := func(l []api.Key) {
		l = l[:cap(l)]
		for i := range l {
			l[i] = key(0xffff, -9)
		}
	}
	a, b := c.Keys(), c.Keys()
	spoil(a)
	if len(b) != 10 || slices.Contains(b, key(0xffff, -9)) {
		t.Errorf("P2: two answers of Keys share memory: %v", b)
	}
	spoil(b)
	if l := c.Keys(); len(l) != 10 || slices.Contains(l, key(0xffff, -9)) {
		t.Errorf("P2: Keys hands out the cache's own: %v", l)
	}
	gone := c.Store(109)
	spoil(gone)
	holds(t, c)
	put(t, c, block(key(5, 5), 10), 100)
	holds(t, c, key(5, 5))
	store(t, c, 100, key(5, 5))
}

// The same key again: the new block and its places alone.
func TestSameKey(t *testing.T) {
	c := opened(t, 8)
	k := key(0x0300, api.TagRam)
	for n := range 20 {
		put(t, c, block(k, n), 256*n)
		same(t, c, block(k, n))
		holds(t, c, k)
		if n > 0 {
			marked(t, c, n)
		}
	}
	for n := range 19 {
		for i := range n {
			store(t, c, 256*n+i)
		}
	}
	store(t, c, 256*19+18, k)
}

// The key that was driven out may be the zero Key: true tells.
func TestZeroKey(t *testing.T) {
	c := opened(t, 2)
	missing(t, c, api.Key{})
	put(t, c, block(api.Key{}, 1), 0)
	holds(t, c, api.Key{})
	evict(t, c, block(key(2, 0), 1), 0, api.Key{})
	missing(t, c, api.Key{})
	evict(t, c, block(api.Key{}, 1), 0, key(2, 0))
	store(t, c, 0, api.Key{})
}

// Blocks with no micro-ops, with no bytes, and with nothing.
func TestBareBlocks(t *testing.T) {
	c := opened(t, 4)
	for i, b := range []api.Block{{}, {PC: 1, Ops: []api.Micro{}}, {PC: 2, Bytes: "\xea"}, {PC: 3, Ops: make([]api.Micro, 3)}} {
		put(t, c, b, 300)
		if got := same(t, c, b); (got.Ops == nil) != (b.Ops == nil) {
			t.Errorf("14.2: block %d: Ops %v, want %v", i, got.Ops, b.Ops)
		}
	}
	store(t, c, 300, key(2, 0))
	holds(t, c, key(0, 0), key(1, 0), key(3, 0))
}

// Two caches have nothing in common.
func TestTwoCaches(t *testing.T) {
	a, b := opened(t, 4), opened(t, 4)
	put(t, a, full(), 300)
	holds(t, b)
	marked(t, b)
	store(t, b, 300)
	put(t, b, full(), 600)
	marked(t, a, 1)
	b.Flush()
	holds(t, a, key(0x8123, 77))
	same(t, a, full())
}
