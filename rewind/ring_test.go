package rewind

import (
	"fmt"
	"math/rand"
	"slices"
	"testing"

	"tandem/api"
)

// told is a ring as a list: the oldest first.
type told[E any] struct {
	list  []E
	bound int
}

func (o *told[E]) push(e E) (E, bool) {
	var lost E
	o.list = append(o.list, e)
	if len(o.list) <= o.bound {
		return lost, false
	}
	lost = o.list[0]
	o.list = o.list[1:]
	return lost, true
}

func (o *told[E]) takeNewest() (E, bool) {
	var e E
	n := len(o.list)
	if n == 0 {
		return e, false
	}
	e = o.list[n-1]
	o.list = o.list[:n-1]
	return e, true
}

func (o *told[E]) takeOldest() (E, bool) {
	var e E
	if len(o.list) == 0 {
		return e, false
	}
	e = o.list[0]
	o.list = o.list[1:]
	return e, true
}

// beside does any calls on a ring and on a list.
func beside[E comparable](t *testing.T, r *rand.Rand, bound int, next func(n int) E) {
	x, o := newRing[E](bound), told[E]{bound: bound}
	for n := range 2000 {
		var got, want E
		var ok, there bool
		switch r.Intn(5) {
		case 0:
			got, ok = x.takeNewest()
			want, there = o.takeNewest()
		case 1:
			got, ok = x.takeOldest()
			want, there = o.takeOldest()
		default:
			e := next(n)
			got, ok = x.push(e)
			want, there = o.push(e)
		}
		if got != want || ok != there {
			t.Fatalf("17.3: bound %d: %v %v, want %v %v", bound, got, ok, want, there)
		}
		if x.length() != len(o.list) {
			t.Fatalf("17.3: bound %d: %d elements, want %d", bound, x.length(), len(o.list))
		}
		for i := range o.list {
			if e := x.at(len(o.list) - 1 - i); e != o.list[i] {
				t.Fatalf("17.3: bound %d: element %d is %v, want %v", bound, i, e, o.list[i])
			}
		}
		var none E
		full := 0
		for _, e := range x.spots {
			if e != none {
				full++
			}
		}
		if len(x.spots) != bound || full != len(o.list) {
			t.Fatalf("17.3: bound %d: %d of %d spots are full, want %d", bound, full, len(x.spots), len(o.list))
		}
	}
}

// A ring of any element, beside a list: of no room, of one spot, of more; what was taken is no longer kept.
func TestRing(t *testing.T) {
	r := rand.New(rand.NewSource(1760))
	for _, bound := range []int{0, 1, 2, 3, 8, 100} {
		beside(t, r, bound, func(n int) int { return n + 1 })
		beside(t, r, bound, func(n int) string { return fmt.Sprint("e", n) })
		beside(t, r, bound, func(n int) *int { return &n })
		beside(t, r, bound, func(n int) [2]uint8 { return [2]uint8{uint8(n), 1} })
	}
}

// A tape keeps no more than it must: the newest and each patch in as much memory as it has bytes, and nothing of what has gone.
func TestKept(t *testing.T) {
	r := rand.New(rand.NewSource(1761))
	x, _ := NewTape(4)
	for range 3000 {
		if r.Intn(3) > 0 {
			data := make([]byte, r.Intn(300), 1000)
			for i := range data {
				data[i] = byte(r.Intn(2))
			}
			x.Push(data)
		} else {
			x.Back()
		}
		if cap(x.newest) != len(x.newest) {
			t.Fatalf("the newest has %d bytes in room for %d", len(x.newest), cap(x.newest))
		}
		kept, room := 0, 0
		for _, patch := range x.older.spots {
			if patch != nil {
				kept++
				room += cap(patch)
			}
		}
		if kept != max(0, x.Len()-1) || len(x.newest)+room != x.Bytes() {
			t.Fatalf("%d patches are kept in %d bytes, beside %d: Len %d, Bytes %d", kept, room, len(x.newest), x.Len(), x.Bytes())
		}
	}
}

// A patch of no form at all leads nowhere, and the list that it's handed stays within its bounds.
func TestPatchedEnds(t *testing.T) {
	r := rand.New(rand.NewSource(1762))
	for range 20000 {
		patch := make([]byte, r.Intn(30))
		for i := range patch {
			patch[i] = byte(r.Intn(7))
			if r.Intn(6) == 0 {
				patch[i] = byte(r.Intn(256))
			}
		}
		list, behind := make([]byte, 12), slices.Repeat([]byte{0xee}, 12)
		whole := append(list, behind...)
		got, ok := patched(whole[:12], patch)
		if !ok && got != nil || len(got) > api.MaxSnap {
			t.Fatalf("17.1: %x: %d bytes, %v", patch, len(got), ok)
		}
		if !slices.Equal(whole[12:], behind) {
			t.Fatalf("17.1: %x: bytes behind the list have changed", patch)
		}
	}
}

// A patch that is cut ahead of its end, or in it, leads nowhere.
func TestPatchedCut(t *testing.T) {
	from, to := []byte{0, 0, 0, 0, 0, 0, 0, 0}, []byte{0, 1, 2, 0, 0, 0, 0, 3}
	patch := Diff(from, to)
	for n := range len(patch) - 4 {
		if got, ok := patched(copied(from), patch[:n]); ok || got != nil {
			t.Errorf("17.1: %x leads to %x", patch[:n], got)
		}
	}
	if got, ok := patched(copied(from), patch[:len(patch)-4]); !ok || !slices.Equal(got, to) {
		t.Errorf("17.1: without its sum %x leads to %x", patch, got)
	}
}
