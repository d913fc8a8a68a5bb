package rewind_test

import (
	"bytes"
	"fmt"
	"math"
	"math/rand"
	"testing"

	"tandem/api"
	"tandem/rewind"
)

// Limits that may not be, and those at the edges.
func TestNewTape(t *testing.T) {
	for _, n := range []int{math.MinInt, -4096, -1, 0, api.MaxTape + 1, 1 << 32, math.MaxInt} {
		if x, e := rewind.NewTape(n); x != nil || e != api.ErrArg {
			t.Errorf("17.2: NewTape(%d): %v, error %d, want ErrArg and nil", n, x, e)
		}
	}
	for _, n := range []int{1, 2, 3, api.MaxTape - 1, api.MaxTape} {
		x := taped(t, n)
		if x.Len() != 0 || x.Bytes() != 0 {
			t.Errorf("17.2: a new tape: Len %d, Bytes %d", x.Len(), x.Bytes())
		}
		for _, i := range []int{math.MinInt, -1, 0, 1, math.MaxInt} {
			if l, e := x.At(i); len(l) != 0 || e != api.ErrArg {
				t.Errorf("17.2: At(%d) of an empty tape: %s, error %d", i, short(l), e)
			}
		}
		if l, e := x.Back(); len(l) != 0 || e != api.ErrEmpty {
			t.Errorf("17.2: Back of an empty tape: %s, error %d", short(l), e)
		}
	}
}

// As many as there is room for, and no more, go on a tape; then they come back, newest first.
func TestLimits(t *testing.T) {
	for _, limit := range []int{1, 2, 3, 4, 7} {
		b := pair(t, limit)
		for round := range 4 {
			for n := range limit + 3*round {
				b.push(t, []byte(fmt.Sprintf("snapshot %d of round %d", n, round)))
				b.all(t)
			}
			for range limit - round {
				b.back(t)
				b.all(t)
			}
		}
		for range limit + 2 {
			b.back(t)
		}
		b.push(t, []byte("and on"))
		b.all(t)
	}
}

// The greatest tape: the oldest goes with the push behind the 4096th, not ahead of it.
func TestMaxTape(t *testing.T) {
	x := taped(t, api.MaxTape)
	list := [][]byte{}
	for n := range api.MaxTape + 3 {
		list = append(list, []byte{byte(n), byte(n >> 8), 1, 2, 3})
		if e := x.Push(list[n]); e != api.OK || x.Len() != min(n+1, api.MaxTape) {
			t.Fatalf("17.2: push %d: error %d, Len %d", n, e, x.Len())
		}
	}
	room := 5
	for n := len(list) - 1; n > 3; n-- {
		room += len(toldDiff(list[n], list[n-1]))
	}
	if x.Bytes() != room {
		t.Errorf("17.2: Bytes %d, want %d", x.Bytes(), room)
	}
	for _, i := range []int{0, 1, 2, 255, 256, 2048, api.MaxTape - 2, api.MaxTape - 1} {
		if l, e := x.At(i); e != api.OK || !bytes.Equal(l, list[len(list)-1-i]) {
			t.Errorf("17.2: At(%d): %s, error %d", i, short(l), e)
		}
	}
	if _, e := x.At(api.MaxTape); e != api.ErrArg {
		t.Errorf("17.2: At(MaxTape): %d", e)
	}
	for n := len(list) - 1; n >= 3; n-- {
		if l, e := x.Back(); e != api.OK || !bytes.Equal(l, list[n]) {
			t.Fatalf("P16: Back %d: %s, error %d", n, short(l), e)
		}
	}
	if _, e := x.Back(); e != api.ErrEmpty || x.Bytes() != 0 || x.Len() != 0 {
		t.Errorf("17.2: behind all: %d, Len %d, Bytes %d", e, x.Len(), x.Bytes())
	}
}

// Snapshots of every length at an edge, behind one another in any order; one more byte is too long, and leaves the tape as it is.
func TestPushLengths(t *testing.T) {
	r := random(40)
	noise := anyBytes(r, api.MaxSnap, 255)
	for _, limit := range []int{1, 2, 20} {
		b := pair(t, limit)
		for _, n := range []int{api.MaxSnap + 1, 1 << 20} {
			b.push(t, make([]byte, n)) // of an empty tape
		}
		for range 4 {
			for _, i := range r.Perm(len(edges)) {
				b.push(t, changed(r, noise, 50)[:edges[i]])
				b.push(t, make([]byte, api.MaxSnap+1))
			}
			b.all(t)
			b.back(t)
		}
		for range limit {
			b.back(t)
		}
	}
}

// A snapshot without bytes is one; nil is the same.
func TestPushNothing(t *testing.T) {
	for _, limit := range []int{1, 2, 5} {
		b := pair(t, limit)
		for _, data := range [][]byte{nil, {}, nil, {1, 2, 3}, nil, {}, {0}, {}} {
			b.push(t, data)
			b.all(t)
		}
		for range limit + 1 {
			b.back(t)
			b.all(t)
		}
		b.push(t, nil)
		if b.tape.Len() != 1 || b.tape.Bytes() != 0 {
			t.Errorf("17.2: a tape with a snapshot of no bytes: Len %d, Bytes %d", b.tape.Len(), b.tape.Bytes())
		}
	}
}

// script is any calls on a tape.
func script(t testing.TB, r *rand.Rand, b *both, calls int) {
	last := anyBytes(r, r.Intn(50), 255)
	pushes := some(r, 2, 5, 8)
	for range calls {
		switch k := r.Intn(12); {
		case k < pushes:
			last = changed(r, last, r.Intn(5))
			if r.Intn(4) == 0 {
				last = recut(r, last)
			}
			b.push(t, last)
		case k < 10:
			b.back(t)
		default:
			b.at(t, some(r, -1, 0, 1, b.tape.Len()-1, b.tape.Len(), r.Intn(b.tape.Len()+1)))
		}
	}
	b.all(t)
}

// Any calls in any order, beside a list of lists.
func TestAnyCalls(t *testing.T) {
	r := random(41)
	for _, limit := range []int{1, 2, 3, 4, 10, 16, 100, api.MaxTape} {
		for range 20 {
			script(t, r, pair(t, limit), 300)
		}
	}
}

// Two tapes in turns know nothing of each other.
func TestTwoTapes(t *testing.T) {
	r := random(42)
	one, two := pair(t, 3), pair(t, 5)
	for range 600 {
		script(t, r, some(r, one, two), 1+r.Intn(4))
		one.holds(t, "the other tape's calls")
		two.holds(t, "the other tape's calls")
		one.all(t)
		two.all(t)
	}
}

// A call that is refused does nothing.
func TestRefusedCalls(t *testing.T) {
	b := pair(t, 3)
	for _, s := range []string{"one", "two", "three", "four"} {
		b.push(t, []byte(s))
		for _, i := range []int{math.MinInt, -1, b.tape.Len(), b.tape.Len() + 1, 3, api.MaxTape, math.MaxInt} {
			b.at(t, i)
		}
		b.push(t, make([]byte, api.MaxSnap+1))
		b.all(t)
	}
	for range 5 {
		b.back(t)
		b.all(t)
	}
}

// A nil tape answers what P1 and the chapter say; one that NewTape did not make does as little.
func TestNilTape(t *testing.T) {
	var none *rewind.Tape
	for _, x := range []*rewind.Tape{none, {}} {
		for _, data := range [][]byte{nil, {}, {1, 2}, make([]byte, api.MaxSnap), make([]byte, api.MaxSnap+1)} {
			if e := x.Push(data); e != api.OK {
				t.Errorf("17.2: Push of %d bytes on a nil tape: %d", len(data), e)
			}
			if x.Len() != 0 || x.Bytes() != 0 {
				t.Errorf("17.2: a nil tape: Len %d, Bytes %d", x.Len(), x.Bytes())
			}
			if l, e := x.Back(); len(l) != 0 || e != api.OK {
				t.Errorf("17.2: Back of a nil tape: %s, %d", short(l), e)
			}
			for _, i := range []int{math.MinInt, -1, 0, 1, math.MaxInt} {
				if l, e := x.At(i); len(l) != 0 || e != api.OK {
					t.Errorf("17.2: At(%d) of a nil tape: %s, %d", i, short(l), e)
				}
			}
		}
	}
}
