package cache_test

import (
	"cmp"
	"slices"

	"tandem/api"
)

// The chapter's words a second time: a list of blocks with their places, gone through from end to end for every question.

type toldHeld struct {
	b     api.Block
	place int
}

type told struct {
	size int
	list []toldHeld
}

func (h toldHeld) key() api.Key { return api.Key{PC: h.b.PC, Tag: h.b.Tag} }

// covers tells of the one place: with a place below 0, or above 2^40, or with no Bytes, a block covers none.
func (h toldHeld) covers(place int) bool {
	if h.place < 0 || h.place > 1<<40 || h.b.Bytes == "" {
		return false
	}
	for i := range len(h.b.Bytes) {
		if h.place+i == place {
			return true
		}
	}
	return false
}

// throw throws away what is meant: the keys in order.
func (c *told) throw(meant func(h toldHeld) bool) []api.Key {
	var gone []api.Key
	c.list = slices.DeleteFunc(c.list, func(h toldHeld) bool {
		if meant(h) {
			gone = append(gone, h.key())
			return true
		}
		return false
	})
	return toldOrder(gone)
}

func toldOrder(l []api.Key) []api.Key {
	slices.SortFunc(l, func(a, b api.Key) int {
		if a.PC != b.PC {
			return cmp.Compare(a.PC, b.PC)
		}
		return cmp.Compare(a.Tag, b.Tag)
	})
	return l
}

func (c *told) get(k api.Key) (api.Block, bool) {
	for _, h := range c.list {
		if h.key() == k {
			return h.b, true
		}
	}
	return api.Block{}, false
}

func (c *told) put(b api.Block, place int) (api.Key, bool) {
	h := toldHeld{b, place}
	slot := toldSlot(h.key(), c.size)
	gone := c.throw(func(x toldHeld) bool { return toldSlot(x.key(), c.size) == slot })
	c.list = append(c.list, h)
	if len(gone) == 1 && gone[0] != h.key() {
		return gone[0], true
	}
	return api.Key{}, false
}

func (c *told) store(place int) []api.Key {
	return c.throw(func(h toldHeld) bool { return h.covers(place) })
}

func (c *told) marked(page int) bool {
	if page < 0 || page > 1<<34 {
		return false
	}
	for place := page * 256; place <= page*256+255; place++ {
		if slices.ContainsFunc(c.list, func(h toldHeld) bool { return h.covers(place) }) {
			return true
		}
	}
	return false
}

func (c *told) flush() int {
	n := len(c.list)
	c.list = nil
	return n
}

func (c *told) keys() []api.Key {
	var l []api.Key
	for _, h := range c.list {
		l = append(l, h.key())
	}
	return toldOrder(l)
}
