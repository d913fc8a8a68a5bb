package cache_test

import (
	"fmt"
	"math"
	"slices"
	"testing"

	"tandem/api"
)

var lone = key(0x0400, api.TagRam)

// covered asks, of a block of its own cache each time, which places and pages it covers: those from first to last.
func covered(t *testing.T, place, bytes, first, last int) {
	t.Helper()
	probe := []int{math.MinInt, -257, -256, -255, -2, -1, 0, 1, 255, 256, 257, far - 1, far, far + 1, far + 255, far + 256, math.MaxInt, place, first, first - 1, first + 1, last - 1, last, last + 1, (first + last) / 2}
	if place < math.MaxInt && place > math.MinInt {
		probe = append(probe, place-1, place+1)
	}
	for _, p := range probe {
		c := opened(t, 4)
		put(t, c, block(lone, bytes), place)
		if p >= first && p <= last {
			store(t, c, p, lone)
			marked(t, c)
		} else {
			store(t, c, p)
			holds(t, c, lone)
		}
	}
	c := opened(t, 4)
	put(t, c, block(lone, bytes), place)
	var pages []int
	for p := first; p <= last; p++ {
		if p == first || p%256 == 0 {
			pages = append(pages, p/256)
		}
	}
	marked(t, c, pages...)
}

// uncovered asks of a block that covers nothing.
func uncovered(t *testing.T, place, bytes int) {
	t.Helper()
	covered(t, place, bytes, 0, -1)
}

func TestCoveredPlaces(t *testing.T) {
	for _, place := range []int{0, 1, 254, 255, 256, 257, 300, 510, 511, 512, 2047, 2048, 10239, 10240, 10240 + api.MaxPrg - 1, 1 << 31, 1 << 32, far - 257, far - 1, far} {
		for _, bytes := range []int{1, 2, 3, 64, 192, 255, 256, 257, 258, 511, 512, 513, 1000, 5000} {
			covered(t, place, bytes, place, place+bytes-1)
		}
	}
}

func TestPlacesOfNothing(t *testing.T) {
	for _, place := range []int{math.MinInt, math.MinInt + 1, -1 << 40, -257, -256, -255, -3, -2, -1, far + 1, far + 2, far + 256, 1 << 41, 1 << 42, 1 << 62, math.MaxInt - 1, math.MaxInt} {
		for _, bytes := range []int{0, 1, 2, 3, 192, 257, 1000} {
			uncovered(t, place, bytes)
		}
	}
	for _, place := range []int{0, 1, 255, 256, 300, far - 1, far} {
		uncovered(t, place, 0)
	}
}

// What counts is the bytes, not the number of instructions, and not where the key says that the code lies.
func TestBytesAlone(t *testing.T) {
	c := opened(t, 4)
	put(t, c, api.Block{PC: 0x0400, Tag: api.TagRam, Bytes: "\xea\xea", Insts: 50, Least: 90, Most: 90, Ops: make([]api.Micro, 50)}, 3000)
	for _, place := range []int{0x0400, 2999, 3002, 3049} {
		store(t, c, place)
	}
	marked(t, c, 11)
	store(t, c, 3001, lone)
}

// Pages that there are none of.
func TestFarPages(t *testing.T) {
	c := opened(t, 8)
	put(t, c, block(key(0, 0), 3), 0)
	put(t, c, block(key(1, 0), 600), far)
	put(t, c, block(key(2, 0), 600), -1)
	put(t, c, block(key(3, 0), 600), far+1)
	put(t, c, block(key(4, 0), 600), 1<<42)
	marked(t, c, 0, far/256, far/256+1, far/256+2)
	for _, page := range []int{math.MinInt, math.MinInt / 256, -1 << 34, -2, -1, 1<<34 - 1, 1 << 34, 1<<34 + 1, 1 << 56, 1 << 57, math.MaxInt / 256, math.MaxInt} {
		if c.Marked(page) {
			t.Errorf("14.3: Marked(%d)", page)
		}
	}
}

// A page stays marked until the last of its blocks has gone, whichever way each goes.
func TestLastOfAPage(t *testing.T) {
	for order := range 24 {
		t.Run(fmt.Sprint("order ", order), func(t *testing.T) {
			c := opened(t, 8)
			for i := range 4 {
				put(t, c, block(key(uint16(i), 0), 4), 510+4*i) // the first has places in page 1 too
			}
			marked(t, c, 1, 2)
			left := []int{0, 1, 2, 3}
			for n, rest := 4, order; n > 0; n-- {
				i := left[rest%n]
				rest /= n
				left = slices.DeleteFunc(left, func(x int) bool { return x == i })
				k := key(uint16(i), 0)
				switch i {
				case 0:
					store(t, c, 513, k)
				case 1:
					put(t, c, block(k, 4), 4000)
					store(t, c, 4000, k)
				case 2:
					evict(t, c, block(key(uint16(i)+8, 0), 4), -1, k)
				case 3:
					put(t, c, block(k, 0), 510)
				}
				if got, want := c.Marked(2), n > 1; got != want {
					t.Fatalf("14.3: Marked(2) with %d blocks left: %v", n-1, got)
				}
				if got, want := c.Marked(1), slices.Contains(left, 0); got != want {
					t.Fatalf("14.3: Marked(1), blocks %v being left: %v", left, got)
				}
			}
			marked(t, c)
		})
	}
}
