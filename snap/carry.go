package snap

// nowhere is the place of what there is none of.
const nowhere = -1

// carrier carries fields between a state and a chunk's body, one behind the other: a writer into the body, a reader out of it. So a body's fields are listed once, and what is read is what was laid down.
type carrier interface {
	number(v uint64, size int) uint64 // a field of so many bytes that is v: what it is now
	truth(v bool) bool
	memory(list []uint8)
}

// whole is the kinds of numbers that a state has.
type whole interface {
	~uint8 | ~uint16 | ~uint32 | ~int
}

// numbers carries numbers of so many bytes each.
func numbers[N whole](c carrier, size int, list ...*N) {
	for _, n := range list {
		*n = N(c.number(uint64(*n), size))
	}
}

// truths carries truths.
func truths(c carrier, list ...*bool) {
	for _, t := range list {
		*t = c.truth(*t)
	}
}

// writer lays fields down.
type writer struct {
	left []uint8 // what of the body is not filled yet
}

func (w *writer) number(v uint64, size int) uint64 {
	putLow(w.left[:size:size], v)
	w.left = w.left[size:]
	return v
}

func (w *writer) truth(v bool) bool {
	if v {
		w.number(1, 1)
	} else {
		w.number(0, 1)
	}
	return v
}

func (w *writer) memory(list []uint8) {
	w.left = w.left[copy(w.left, list):]
}

// reader takes fields up.
type reader struct {
	left  []uint8 // what of the body is not read yet
	at    int     // the place of its first byte in the snapshot
	wrong int     // the place of the first truth that is neither 0 nor 1, or nowhere
}

func (r *reader) number(_ uint64, size int) uint64 {
	v := low(r.left[:size:size])
	r.pass(size)
	return v
}

func (r *reader) truth(bool) bool {
	at := r.at
	v := r.number(0, 1)
	if v > 1 && r.wrong == nowhere {
		r.wrong = at
	}
	return v == 1
}

func (r *reader) memory(list []uint8) {
	r.pass(copy(list, r.left))
}

// pass goes on by so many bytes.
func (r *reader) pass(n int) {
	r.left = r.left[n:]
	r.at += n
}

// low is the number that bytes make, the lowest first.
func low(list []uint8) uint64 {
	v := uint64(0)
	for i, b := range list {
		v |= uint64(b) << (8 * i)
	}
	return v
}

// putLow fills bytes with a number, the lowest first.
func putLow(list []uint8, v uint64) {
	for i := range list {
		list[i] = uint8(v >> (8 * i))
	}
}
