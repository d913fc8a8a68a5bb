package cache_test

import (
	"testing"

	"tandem/api"
	"tandem/cache"
)

// The examples of 14.5, by their numbers.

func TestExample1(t *testing.T) {
	for _, size := range []int{0, 65537} {
		if c, e := cache.New(size); c != nil || e != api.ErrSize {
			t.Errorf("New(%d): %v, error %d", size, c, e)
		}
	}
	for _, x := range []struct {
		k          api.Key
		size, want int
	}{{key(0x8000, 0), 4, 0}, {key(0x8001, 1), 4, 0}, {key(0, -1), 65536, 25033}, {key(0x1234, 7), 0, -1}} {
		if got := cache.Slot(x.k, x.size); got != x.want {
			t.Errorf("Slot(%v, %d): %d, want %d", x.k, x.size, got, x.want)
		}
	}
}

func TestExample2(t *testing.T) {
	c := opened(t, 4)
	put(t, c, block(key(0x8000, 0), 3), 10240)
	evict(t, c, block(key(0x8001, 1), 3), 18433, key(0x8000, 0))
	holds(t, c, key(0x8001, 1))
	missing(t, c, key(0x8000, 0))
}

func TestExample3(t *testing.T) {
	first, second := key(0x012c, api.TagRam), key(0x012f, api.TagRam)
	for _, x := range []struct {
		place int
		want  []api.Key
	}{{303, []api.Key{first, second}}, {302, []api.Key{first}}, {305, []api.Key{second}}, {299, nil}} {
		c := opened(t, 64)
		put(t, c, block(first, 5), 300)
		put(t, c, block(second, 4), 303)
		holds(t, c, first, second)
		store(t, c, x.place, x.want...)
	}
}

func TestExample4(t *testing.T) {
	k := key(0x01fe, api.TagRam)
	for what, do := range map[string]func(c *cache.Cache){
		"thrown away": func(c *cache.Cache) { store(t, c, 512, k) },
		"replaced":    func(c *cache.Cache) { put(t, c, block(k, 3), 1024) },
		"evicted":     func(c *cache.Cache) { evict(t, c, block(key(0x0202, api.TagRam), 3), 1024, k) },
		"flushed":     func(c *cache.Cache) { c.Flush() },
	} {
		c := opened(t, 4)
		put(t, c, block(k, 3), 510)
		marked(t, c, 1, 2)
		if do(c); c.Marked(1) || c.Marked(2) {
			t.Errorf("a block that was %s has left its marks", what)
		}
	}
}

func TestExample5(t *testing.T) {
	c := opened(t, 16)
	k := key(0x9000, 5)
	put(t, c, block(k, 6), 300)
	put(t, c, block(k, 4), 900)
	holds(t, c, k)
	for place := 299; place < 307; place++ {
		store(t, c, place)
	}
	store(t, c, 903, k)
}

func TestExample6(t *testing.T) {
	c := opened(t, 4)
	k := key(0x8000, 0)
	put(t, c, block(k, 9), -3)
	for place := -20; place < 20; place++ {
		store(t, c, place)
	}
	marked(t, c)
	holds(t, c, k)
	evict(t, c, block(key(0x8004, 0), 9), -3, k)
	holds(t, c, key(0x8004, 0))
	if n := c.Flush(); n != 1 {
		t.Errorf("Flush: %d", n)
	}
	holds(t, c)
}

func TestExample7(t *testing.T) {
	c := opened(t, 4)
	k := key(0x8000, 0)
	put(t, c, block(k, 5), 10240)
	b, _ := c.Get(k)
	for i := range b.Ops {
		b.Ops[i] = api.Micro{Kind: 99}
	}
	b.Ops = append(b.Ops, api.Micro{Kind: 98})
	if b, ok := c.Get(k); !ok || !sameBlock(b, block(k, 5)) {
		t.Errorf("Get behind a write into its answer: %+v", b)
	}
}

func TestExample8(t *testing.T) {
	c := opened(t, 1)
	put(t, c, block(key(0, 0), 3), 0)
	for i := range 300 {
		evict(t, c, block(key(uint16(i+1), i%130), 3), i, key(uint16(i), max(i-1, 0)%130))
		holds(t, c, key(uint16(i+1), i%130))
	}
}

func TestExample9(t *testing.T) {
	c := opened(t, 16)
	for i := range 3 {
		put(t, c, block(key(uint16(i), 0), 3), 3*i)
	}
	for _, want := range []int{3, 0} {
		if n := c.Flush(); n != want {
			t.Errorf("Flush: %d, want %d", n, want)
		}
	}
}

func TestExample10(t *testing.T) {
	c := opened(t, 65536)
	for _, k := range []api.Key{key(0x0200, 129), key(0x0200, 128), key(0x0100, 3)} {
		put(t, c, block(k, 2), 0)
	}
	holds(t, c, key(0x0100, 3), key(0x0200, 128), key(0x0200, 129))
}
