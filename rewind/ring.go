package rewind

// ring is a bounded number of elements in a row, pushed at its new end and taken from either.
type ring[E any] struct {
	spots []E // behind the last one comes the first
	first int // where the oldest element lies
	count int
}

func newRing[E any](bound int) ring[E] {
	return ring[E]{spots: make([]E, bound)}
}

func (r *ring[E]) length() int { return r.count }

// at is the i-th newest element, the newest being 0.
func (r *ring[E]) at(i int) E { return r.spots[r.spot(r.count-1-i)] }

// push puts an element in as the newest: the one for which there is no room any more, if there is such a one. That's the oldest, or, where there is no room at all, the new one.
func (r *ring[E]) push(e E) (E, bool) {
	if len(r.spots) == 0 {
		return e, true
	}
	var lost E
	full := r.count == len(r.spots)
	if full {
		lost, _ = r.takeOldest()
	}
	r.spots[r.spot(r.count)] = e
	r.count++
	return lost, full
}

// takeNewest takes the newest element out, if there is one.
func (r *ring[E]) takeNewest() (E, bool) {
	if r.count == 0 {
		var none E
		return none, false
	}
	r.count--
	return r.empty(r.spot(r.count)), true
}

// takeOldest takes the oldest element out, if there is one.
func (r *ring[E]) takeOldest() (E, bool) {
	if r.count == 0 {
		var none E
		return none, false
	}
	e := r.empty(r.first)
	r.first = r.spot(1)
	r.count--
	return e, true
}

// spot is where the i-th oldest element lies, or would lie.
func (r *ring[E]) spot(i int) int { return (r.first + i) % len(r.spots) }

// empty clears a spot, or what its element leads to would be kept: the element that was there.
func (r *ring[E]) empty(spot int) E {
	e := r.spots[spot]
	clear(r.spots[spot : spot+1])
	return e
}
