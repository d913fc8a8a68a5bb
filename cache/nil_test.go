package cache_test

import (
	"math"
	"testing"

	"tandem/api"
	"tandem/cache"
)

// A nil Cache, and one that New did not make: zero values, and nothing happens.
func TestNoCache(t *testing.T) {
	for what, c := range map[string]*cache.Cache{"nil": nil, "the zero Cache": new(cache.Cache)} {
		calm(t, what, func() {
			for range 2 {
				for _, place := range []int{math.MinInt, -1, 0, 300, far, far + 1, math.MaxInt} {
					if k, gone := c.Put(full(), place); gone || k != (api.Key{}) {
						t.Errorf("14.3: %s: Put: %v %v", what, k, gone)
					}
					if l := c.Store(place); l != nil {
						t.Errorf("14.3: %s: Store: %v", what, l)
					}
					if c.Marked(place) || c.Marked(place/256) {
						t.Errorf("14.3: %s: Marked(%d)", what, place)
					}
				}
				missing(t, c, key(0x8123, 77))
				missing(t, c, api.Key{})
				if c.Len() != 0 || c.Flush() != 0 || c.Keys() != nil {
					t.Errorf("14.3: %s: Len %d, Keys %v", what, c.Len(), c.Keys())
				}
			}
		})
	}
}
