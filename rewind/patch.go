package rewind

import "tandem/api"

// signs is how a patch begins.
const signs = "TP"

// Numbers go in groups of groupBits bits, a byte a group, with the bit more in every byte but the last.
const (
	groupBits = 7
	more      = 1 << groupBits
	groups    = 3 // no number of a patch takes more than MaxSnap does
)

// parting is how many bytes that are 0 end a run.
const parting = 4

// sumBits is the length of the sum.
const sumBits = 32

// appendNumbers lays numbers down behind a patch's bytes.
func appendNumbers(patch []byte, list ...int) []byte {
	for _, n := range list {
		for ; n >= more; n >>= groupBits {
			patch = append(patch, byte(n)|more)
		}
		patch = append(patch, byte(n))
	}
	return patch
}

// appendRuns lays the runs of x down.
func appendRuns(patch, x []byte) []byte {
	for at := 0; ; {
		first := runFirst(x, at)
		if first == len(x) {
			return patch
		}
		end := runEnd(x, first)
		patch = appendNumbers(patch, first-at, end-first)
		patch = append(patch, x[first:end]...)
		at = end
	}
}

// runFirst is where the first run at or behind a place begins: x's length if there is none.
func runFirst(x []byte, at int) int {
	for at < len(x) && x[at] == 0 {
		at++
	}
	return at
}

// runEnd is the place behind the run that begins at first.
func runEnd(x []byte, first int) int {
	end := first + 1 // behind the last byte so far that isn't 0
	for i := end; i < len(x) && i < end+parting; i++ {
		if x[i] != 0 {
			end = i + 1
		}
	}
	return end
}

// appendSum lays the sum down, the lowest byte first.
func appendSum(patch []byte, sum uint32) []byte {
	for shift := 0; shift < sumBits; shift += 8 {
		patch = append(patch, byte(sum>>shift))
	}
	return patch
}

// patched is what a patch makes out of list, which it may write over. It asks no more than it needs: false where the patch breaks off or leads beyond its bounds. Whether it is the very patch of these two lists shows when that is made anew.
func patched(list, patch []byte) ([]byte, bool) {
	r := reader{left: patch}
	r.take(len(signs))
	r.number() // list's length, as the patch says
	size := r.number()
	if r.broken || size > api.MaxSnap {
		return nil, false
	}
	list = resized(list, size)
	for at := 0; ; {
		at += r.number()
		run := r.take(r.number())
		if r.broken || at+len(run) > size {
			return nil, false
		}
		if len(run) == 0 {
			return list, true
		}
		turn(list[at:], run)
		at += len(run)
	}
}

// reader reads a patch from its first byte on.
type reader struct {
	left   []byte
	broken bool // something was no number, or not there
}

// take is the next n bytes.
func (r *reader) take(n int) []byte {
	if n > len(r.left) {
		r.broken = true
		return nil
	}
	list := r.left[:n:n]
	r.left = r.left[n:]
	return list
}

func (r *reader) number() int {
	n := 0
	for i := range groups {
		group := r.take(1)
		if r.broken {
			return 0
		}
		n |= int(group[0]&^more) << (i * groupBits)
		if group[0] < more {
			return n
		}
	}
	r.broken = true
	return 0
}

// turn turns the bits of list that are set in x, as far as both go.
func turn(list, x []byte) {
	for i := range min(len(list), len(x)) {
		list[i] ^= x[i]
	}
}

// copied is the same bytes in memory of their own, and no more of it than they need.
func copied(list []byte) []byte {
	l := make([]byte, len(list))
	copy(l, list)
	return l
}

// resized is a list of another length, cut or with 0 behind its bytes: list itself, if it has that length.
func resized(list []byte, size int) []byte {
	if len(list) == size {
		return list
	}
	l := make([]byte, size)
	copy(l, list)
	return l
}
