package cache

import (
	"math/rand"
	"testing"

	"tandem/api"
)

// counted is the marks as they must be: gone through block by block.
func counted(c *Cache) map[int]int {
	m := map[int]int{}
	for _, e := range c.slots.full {
		pages := map[int]int{}
		for i := range e.value.covers.size {
			pages[(e.value.covers.first+i)/256] = 1
		}
		for page := range pages {
			m[page]++
		}
	}
	return m
}

// sound asks what the inside of a cache must keep to: the numbers of blocks by page, no entry of a page without one, and slots and entries that lead to each other.
func sound(t *testing.T, c *Cache) {
	t.Helper()
	want := counted(c)
	if len(c.marks) != len(want) {
		t.Fatalf("14.4: %d pages have an entry, want %d", len(c.marks), len(want))
	}
	for page, n := range want {
		if c.marks[page] != n {
			t.Fatalf("14.4: page %d has %d blocks, want %d", page, c.marks[page], n)
		}
	}
	used := 0
	for slot, n := range c.slots.at {
		if n == 0 {
			continue
		}
		used++
		if e := c.slots.full[n-1]; e.slot != slot || Slot(e.key, len(c.slots.at)) != slot || e.key != (api.Key{PC: e.value.block.PC, Tag: e.value.block.Tag}) {
			t.Fatalf("14.1: slot %d holds the entry of slot %d, key %v", slot, e.slot, e.key)
		}
	}
	if used != len(c.slots.full) {
		t.Fatalf("14.1: %d slots are full, and there are %d entries", used, len(c.slots.full))
	}
	for _, e := range c.slots.full[len(c.slots.full):cap(c.slots.full)] {
		if e.value.block.Ops != nil || e.value.block.Bytes != "" {
			t.Fatalf("a block that has gone is still kept: %v", e.key)
		}
	}
}

// A page's entry is deleted with the last of its blocks, and a flush clears the map and the slots.
func TestMarksInside(t *testing.T) {
	r := rand.New(rand.NewSource(1490))
	for _, size := range []int{1, 3, 16, 200} {
		c, _ := New(size)
		for n := range 4000 {
			switch k := r.Intn(40); {
			case k < 25:
				b := api.Block{PC: uint16(r.Intn(300)), Tag: r.Intn(3), Bytes: string(make([]byte, r.Intn(700))), Ops: make([]api.Micro, 3)}
				c.Put(b, r.Intn(3000)-200)
			case k < 39:
				c.Store(r.Intn(3500))
			case n%3 == 0:
				c.Flush()
			}
			sound(t, c)
		}
		for place := range 4000 {
			c.Store(place)
		}
		if sound(t, c); len(c.marks) != 0 {
			t.Fatalf("14.4: entries of %d pages behind stores to all places", len(c.marks))
		}
		c.Flush()
		sound(t, c)
	}
}

// The slots are for any key that can be compared and any value.
func TestSlotsOfAnything(t *testing.T) {
	s := newSlots[string, []int](3)
	s.put(2, "two", []int{2})
	s.put(0, "zero", []int{0, 0})
	if v, ok := s.get(2, "two"); !ok || len(v) != 1 || s.length() != 2 || s.size() != 3 {
		t.Errorf("14.4: %v %v", v, ok)
	}
	if v, ok := s.get(2, "zero"); ok || v != nil {
		t.Errorf("14.4: another key of a slot: %v", v)
	}
	if k, v, ok := s.take(2); !ok || k != "two" || v[0] != 2 {
		t.Errorf("14.4: take: %q %v %v", k, v, ok)
	}
	if k, v, ok := s.take(1); ok || k != "" || v != nil {
		t.Errorf("14.4: take of an empty slot: %q %v", k, v)
	}
	if l := s.keys(func(v *[]int) bool { return len(*v) == 2 }); len(l) != 1 || l[0] != "zero" {
		t.Errorf("14.4: keys: %v", l)
	}
	if n := s.empty(); n != 1 || s.length() != 0 {
		t.Errorf("14.4: empty: %d", n)
	}
}
