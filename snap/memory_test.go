package snap_test

import (
	"bytes"
	"math/rand"
	"sync"
	"testing"

	"tandem/api"
	"tandem/snap"
)

// The bytes that are handed to Load stay, those in their spare room too, whether it takes them or not.
func TestDataStays(t *testing.T) {
	r := rand.New(rand.NewSource(1606))
	sum, _, data := full(t)
	for range 300 {
		given := join(data, data)
		n := some(r, len(data), len(data), len(data)+r.Intn(9), r.Intn(len(data)))
		if flip(r) {
			given[r.Intn(n+1)] ^= 1
		}
		if flip(r) {
			given = append(mended(given[:len(data)]), given[len(data):]...)
		}
		was := bytes.Clone(given)
		snap.Load(some(r, sum, sum+1), given[:n])
		if !bytes.Equal(given, was) {
			t.Fatal("P16.6: Load changes what it is given")
		}
	}
}

// A state that was loaded has nothing in common with the bytes that it came from.
func TestStateIsNew(t *testing.T) {
	sum, want, data := full(t)
	given := bytes.Clone(data)
	s, e, _ := snap.Load(sum, given)
	clear(given)
	if e != api.OK {
		t.Fatalf("P16.3: %d", e)
	}
	same(t, "P16.6: the bytes written over", &s, &want)
	s.Mem.Ram[0]++
	s.Mem.Board.R[0]++
	again, _, _ := snap.Load(sum, data)
	same(t, "P16.6: a state written over", &again, &want)
}

// Snapshots share no memory with each other, spare room too.
func TestSnapshotsAreNew(t *testing.T) {
	sum, s, data := full(t)
	want := bytes.Clone(data)
	one, two := saves(t, "one", sum, s), saves(t, "two", sum, s)
	for i := range one {
		one[i] = 0xaa
	}
	one = append(one, 1, 2, 3)
	one = one[:cap(one)]
	for i := range one {
		one[i] = 0xbb
	}
	if !bytes.Equal(two, want) || !bytes.Equal(data, want) || !bytes.Equal(saves(t, "three", sum, s), want) {
		t.Error("P16.6: one snapshot written over changes another")
	}
	two = append(two[:100], bytes.Repeat([]byte{0xcc}, 50)...)
	if !bytes.Equal(data, want) || !bytes.Equal(saves(t, "four", sum, s), want) {
		t.Errorf("P16.6: one snapshot appended to changes another (%d bytes)", len(two))
	}
}

// A refused state leaves no bytes, and a refused snapshot no state, whatever was saved and loaded ahead of it.
func TestNothingIsKept(t *testing.T) {
	r := rand.New(rand.NewSource(1607))
	sum, s, data := full(t)
	wrong := s
	wrong.Cpu.Regs.P = 0
	small := saves(t, "small", 1, first(t, nrom()))
	for range 200 {
		switch r.Intn(5) {
		case 0:
			if d, e := snap.Save(sum, wrong); e != api.ErrState || len(d) != 0 {
				t.Fatalf("P16.2: %d bytes, %d", len(d), e)
			}
		case 1:
			n := r.Intn(len(data))
			refused(t, "P16.6: any order", sum, data[:n], api.ErrShort, n)
		case 2:
			loads(t, "P16.6: any order", sum, data, &s)
		case 3:
			if !bytes.Equal(saves(t, "any order", sum, s), data) {
				t.Fatal("P16.6: another snapshot of the same state")
			}
		case 4:
			want := first(t, nrom())
			loads(t, "P16.6: any order", 1, small, &want)
		}
	}
}

// Calls side by side answer what each answers alone.
func TestSideBySide(t *testing.T) {
	r := rand.New(rand.NewSource(1608))
	var all sync.WaitGroup
	for i, c := range boards() {
		s, sum := anyState(r, c), r.Uint32()
		want := toldBytes(sum, &s)
		all.Go(func() {
			for range 30 {
				d, e := snap.Save(sum, s)
				u, f, _ := snap.Load(sum, d)
				if e != api.OK || f != api.OK || u != s || !bytes.Equal(d, want) || snap.Check(u) != api.OK {
					t.Errorf("P16.6: side by side: board %d: %d, %d", i, e, f)
					return
				}
			}
		})
	}
	all.Wait()
}
