package cache_test

import (
	"math/rand"
	"slices"
	"testing"

	"tandem/api"
	"tandem/cache"
)

// pair is a cache and its second form, which are told the same.
type pair struct {
	t *testing.T
	r *rand.Rand
	c *cache.Cache
	w *told
	// how keys and places are drawn
	pcs, tags int
	places    int
	counts    map[string]int
}

func (p *pair) anyKey() api.Key {
	if len(p.w.list) > 0 && p.r.Intn(3) == 0 {
		return some(p.r, p.w.list...).key()
	}
	return key(some(p.r, uint16(p.r.Intn(p.pcs)), uint16(p.r.Intn(p.pcs)), some(p.r, edgePCs...)), some(p.r, p.r.Intn(p.tags), p.r.Intn(p.tags), p.r.Intn(p.tags), some(p.r, edgeTags...)))
}

func (p *pair) anyPlace() int {
	if len(p.w.list) > 0 && p.r.Intn(3) == 0 {
		h := some(p.r, p.w.list...)
		return h.place + some(p.r, 0, -1, 1, len(h.b.Bytes)-1, len(h.b.Bytes))
	}
	return some(p.r, p.r.Intn(p.places), p.r.Intn(p.places), p.r.Intn(p.places), -1-p.r.Intn(300), far-p.r.Intn(300), far+p.r.Intn(3), 10240+p.r.Intn(api.MaxPrg))
}

func (p *pair) anyBytes() int {
	return some(p.r, 1+p.r.Intn(12), 1+p.r.Intn(12), 1+p.r.Intn(192), 0, p.r.Intn(700))
}

// act makes one call on both.
func (p *pair) act() {
	p.t.Helper()
	switch n := p.r.Intn(100); {
	case n < 40:
		p.put()
	case n < 60:
		place := p.anyPlace()
		got, want := p.c.Store(place), p.w.store(place)
		p.counts["thrown"] += len(want)
		if len(want) > 1 {
			p.counts["together"]++
		}
		if !slices.Equal(got, want) {
			p.t.Fatalf("14.3: Store(%d): %s, want %s", place, short(got), short(want))
		}
	case n < 75:
		k := p.anyKey()
		got, ok := p.c.Get(k)
		want, has := p.w.get(k)
		if ok != has || !sameBlock(got, want) {
			p.t.Fatalf("14.2: Get(%v): %+v %v, want %+v %v", k, got, ok, want, has)
		}
		if ok {
			p.counts["got"]++
		}
		for i := range got.Ops {
			got.Ops[i].Cycle = -5
		}
	case n < 99:
		place := p.anyPlace()
		page := some(p.r, place>>8, place>>8+1, place>>8-1)
		if got, want := p.c.Marked(page), p.w.marked(page); got != want {
			p.t.Fatalf("14.3: Marked(%d): %v, want %v", page, got, want)
		}
	default:
		if p.r.Intn(5) != 0 {
			return
		}
		p.counts["flushed"]++
		if got, want := p.c.Flush(), p.w.flush(); got != want {
			p.t.Fatalf("14.3: Flush: %d, want %d", got, want)
		}
	}
}

func (p *pair) put() {
	p.t.Helper()
	b, place := block(p.anyKey(), p.anyBytes()), p.anyPlace()
	b.Most = p.r.Int()
	kept := b
	kept.Ops = slices.Clone(b.Ops)
	want, has := p.w.put(kept, place)
	got, gone := p.c.Put(b, place)
	if got != want || gone != has {
		p.t.Fatalf("14.2: Put of {%#x %d} at %d: %v %v, want %v %v", b.PC, b.Tag, place, got, gone, want, has)
	}
	if gone {
		p.counts["evicted"]++
	}
	for i := range b.Ops {
		b.Ops[i].Cycle = -6
	}
}

// whole holds all that both tell against each other.
func (p *pair) whole() {
	p.t.Helper()
	keys := p.w.keys()
	if got := p.c.Keys(); !slices.Equal(got, keys) || p.c.Len() != len(keys) {
		p.t.Fatalf("14.3: Keys: %s, Len %d, want %s", short(got), p.c.Len(), short(keys))
	}
	if p.c.Len() > p.w.size {
		p.t.Fatalf("P13: %d blocks in %d slots", p.c.Len(), p.w.size)
	}
	for _, h := range p.w.list {
		if b, ok := p.c.Get(h.key()); !ok || !sameBlock(b, h.b) {
			p.t.Fatalf("14.2: Get(%v): %+v %v, want %+v", h.key(), b, ok, h.b)
		}
	}
}

// Long scripts of all the calls, in caches of all sizes.
func TestScripts(t *testing.T) {
	counts := map[string]int{}
	for seed, size := range []int{1, 1, 2, 3, 4, 5, 8, 13, 16, 64, 100, 256, 1000, 65535, 65536} {
		p := &pair{t: t, r: rand.New(rand.NewSource(int64(1410 + seed))), c: opened(t, size), w: &told{size: size}, pcs: 30, tags: 5, places: 1500, counts: counts}
		if seed%2 == 0 {
			p.pcs, p.tags, p.places = 65536, 130, 11000
		}
		for n := range 6000 {
			p.act()
			if n%50 == 0 {
				p.whole()
			}
			if len(p.w.list) > 150 { // the second form goes through all of them for each question
				p.c.Flush()
				p.w.flush()
			}
		}
		p.whole()
		for _, h := range slices.Clone(p.w.list) {
			p.c.Store(h.place)
			p.w.store(h.place)
		}
		p.whole()
	}
	for what, least := range map[string]int{"thrown": 3000, "together": 200, "got": 1000, "evicted": 10000, "flushed": 100} {
		if counts[what] < least {
			t.Errorf("%s %d times: too few to tell", what, counts[what])
		}
	}
}

// Two caches that are told the same answer the same.
func TestAlike(t *testing.T) {
	for seed := range 20 {
		var lists [2][]api.Key
		for i := range lists {
			r := rand.New(rand.NewSource(int64(1450 + seed)))
			c := opened(t, 1+r.Intn(200))
			for range 2000 {
				if r.Intn(4) > 0 {
					k, _ := c.Put(block(key(uint16(r.Intn(500)), r.Intn(130)), r.Intn(40)), r.Intn(2048))
					lists[i] = append(lists[i], k)
				} else {
					lists[i] = append(lists[i], c.Store(r.Intn(2048))...)
				}
			}
			lists[i] = append(lists[i], c.Keys()...)
		}
		if !slices.Equal(lists[0], lists[1]) {
			t.Fatalf("P2: two caches answer %s and %s", short(lists[0]), short(lists[1]))
		}
	}
}
