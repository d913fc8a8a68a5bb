package cache

const (
	pageBits  = 8       // a page is 256 places
	lastPlace = 1 << 40 // no block that begins beyond it covers anything
)

// span is places side by side.
type span struct {
	first, size int
}

// spanFrom is the places that so many bytes cover, the first of them at place.
func spanFrom(place, size int) span {
	if place < 0 || place > lastPlace {
		return span{}
	}
	return span{place, size}
}

func (s span) has(place int) bool {
	return place >= s.first && place-s.first < s.size
}

// pages is the first page of which a span has a place, and the one behind the last.
func (s span) pages() (int, int) {
	if s.size == 0 {
		return 0, 0
	}
	return pageOf(s.first), pageOf(s.first+s.size-1) + 1
}

// pageOf is the page in which a place lies.
func pageOf(place int) int { return place >> pageBits }

// marks is, by page, how many blocks cover some place of it. Pages of none have no entry.
type marks map[int]int

// add marks the pages of a block's places.
func (m marks) add(s span) {
	first, end := s.pages()
	for page := first; page < end; page++ {
		m[page]++
	}
}

// remove takes the marks of a block's places away.
func (m marks) remove(s span) {
	first, end := s.pages()
	for page := first; page < end; page++ {
		m[page]--
		if m[page] == 0 {
			delete(m, page)
		}
	}
}
