package cache

// slots is a row of slots, numbered from 0 on. Each is empty or holds one value under its key.
type slots[K comparable, V any] struct {
	at   []int         // by slot: the number, from 1 on, of its entry in full; 0 if it is empty
	full []entry[K, V] // those that aren't empty, side by side: a store goes through these alone, however many slots there are
}

// entry is what a slot holds.
type entry[K comparable, V any] struct {
	slot  int
	key   K
	value V
}

// newSlots is so many empty slots.
func newSlots[K comparable, V any](size int) slots[K, V] {
	return slots[K, V]{at: make([]int, size)}
}

func (s *slots[K, V]) size() int { return len(s.at) }

func (s *slots[K, V]) length() int { return len(s.full) }

// get is the value in a slot, if it lies there under that key.
func (s *slots[K, V]) get(slot int, key K) (V, bool) {
	if n := s.at[slot]; n > 0 && s.full[n-1].key == key {
		return s.full[n-1].value, true
	}
	var none V
	return none, false
}

// put fills a slot that is empty.
func (s *slots[K, V]) put(slot int, key K, value V) {
	s.full = append(s.full, entry[K, V]{slot, key, value})
	s.at[slot] = len(s.full)
}

// take empties a slot: the key and the value that lay there, if it was full.
func (s *slots[K, V]) take(slot int) (K, V, bool) {
	n, last := s.at[slot], len(s.full)
	if n == 0 {
		var none entry[K, V]
		return none.key, none.value, false
	}
	gone := s.full[n-1]
	s.full[n-1] = s.full[last-1]
	s.at[s.full[n-1].slot] = n
	s.at[slot] = 0
	clear(s.full[last-1:]) // or what the value leads to would be kept
	s.full = s.full[:last-1]
	return gone.key, gone.value, true
}

// keys is the keys of the values that are wanted, in no order.
func (s *slots[K, V]) keys(wanted func(value *V) bool) []K {
	var list []K
	for i := range s.full {
		if wanted(&s.full[i].value) {
			list = append(list, s.full[i].key)
		}
	}
	return list
}

// empty empties all slots: how many were full.
func (s *slots[K, V]) empty() int {
	n := len(s.full)
	clear(s.at)
	clear(s.full)
	s.full = s.full[:0]
	return n
}
