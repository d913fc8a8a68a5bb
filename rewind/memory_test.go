package rewind_test

import (
	"bytes"
	"sync"
	"testing"

	"tandem/api"
	"tandem/rewind"
)

// roomy is a list with spare room behind it, and all of that memory.
func roomy(l []byte) ([]byte, []byte) {
	whole := join(l, bytes.Repeat([]byte{0xcc}, 50))
	return whole[:len(l)], whole
}

// spoil writes over a list and all of its spare room.
func spoil(l []byte) {
	l = l[:cap(l)]
	for i := range l {
		l[i] = ^l[i] + 3
	}
}

// What is handed to Diff and Patch stays as it is, its spare room too, whether it is taken or refused.
func TestArgumentsStay(t *testing.T) {
	r := random(50)
	for range 3000 {
		from, fromAll := roomy(anyBytes(r, r.Intn(60), 1))
		l := changed(r, from, r.Intn(5))
		if r.Intn(2) == 0 {
			l = recut(r, l)
		}
		to, toAll := roomy(l)
		patch, patchAll := roomy(toldDiff(from, to))
		if r.Intn(2) == 0 {
			patch[r.Intn(len(patch))] ^= 1
		}
		was := [3][]byte{bytes.Clone(fromAll), bytes.Clone(toAll), bytes.Clone(patchAll)}
		rewind.Diff(from, to)
		rewind.Patch(from, patch)
		for i, now := range [3][]byte{fromAll, toAll, patchAll} {
			if !bytes.Equal(now, was[i]) {
				t.Fatalf("P2: argument %d has changed: %s, was %s", i, short(now), short(was[i]))
			}
		}
	}
}

// Answers of Diff and Patch share no memory with what was handed in, nor with each other, spare room too.
func TestAnswersAreNew(t *testing.T) {
	r := random(51)
	for range 1000 {
		from := anyBytes(r, r.Intn(60), 1)
		to := changed(r, from, r.Intn(3)) // often the same bytes
		given, list := bytes.Clone(from), bytes.Clone(to)
		want := toldDiff(from, to)
		one, two := rewind.Diff(given, list), rewind.Diff(given, list)
		spoil(one)
		if !bytes.Equal(two, want) || !bytes.Equal(given, from) || !bytes.Equal(list, to) {
			t.Fatal("P2: a patch that is written over is seen elsewhere")
		}
		a, _ := rewind.Patch(given, two)
		b, _ := rewind.Patch(given, two)
		spoil(a)
		if !bytes.Equal(b, to) || !bytes.Equal(given, from) || !bytes.Equal(two, want) {
			t.Fatal("P2: a patched list that is written over is seen elsewhere")
		}
		spoil(given)
		spoil(two)
		if !bytes.Equal(b, to) {
			t.Fatal("P2: what was handed to Patch is seen in its answer")
		}
	}
}

// What was pushed may be written over, and what came back too: the tape is as it was. Lists that come back share no memory.
func TestTapeKeepsItsOwn(t *testing.T) {
	r := random(52)
	for _, limit := range []int{1, 2, 3, 9} {
		b := pair(t, limit)
		last := anyBytes(r, 40, 255)
		for range 400 {
			last = changed(r, last, r.Intn(4))
			if r.Intn(3) == 0 {
				last = recut(r, last)
			}
			given, whole := roomy(last)
			was := bytes.Clone(whole)
			b.push(t, given)
			if !bytes.Equal(whole, was) {
				t.Fatal("P2: Push changes what it is given")
			}
			spoil(whole)
			for i := range b.told.list {
				one, _ := b.tape.At(i)
				two, _ := b.tape.At(i)
				spoil(one)
				if !bytes.Equal(two, b.told.list[i]) {
					t.Fatalf("P2: two answers of At(%d) share memory", i)
				}
				spoil(two)
			}
			b.all(t)
			for range r.Intn(3) {
				got, _ := b.tape.Back()
				want, _ := b.told.back()
				b.all(t)
				if !bytes.Equal(got, want) {
					t.Fatalf("P2: a list that came back is %s behind other calls, was %s", short(got), short(want))
				}
				spoil(got)
				b.holds(t, "a list that came back written over")
				b.all(t)
			}
		}
	}
}

// A list that came back is the caller's: what the tape does later doesn't show in it.
func TestBackIsTheCallers(t *testing.T) {
	x := taped(t, 4)
	x.Push([]byte("one two"))
	x.Push([]byte("two two"))
	got, _ := x.Back()
	at, _ := x.At(0)
	x.Push([]byte("six six"))
	x.Push([]byte("ten ten"))
	x.Back()
	x.Back()
	x.Back()
	if string(got) != "two two" || string(at) != "one two" {
		t.Errorf("P2: lists that came back have become %q and %q", got, at)
	}
}

// A list that came back pushed once more, and pushed onto another tape.
func TestPushBack(t *testing.T) {
	a, b := pair(t, 3), pair(t, 3)
	for _, s := range []string{"one", "two and more", "three"} {
		a.push(t, []byte(s))
	}
	got, _ := a.tape.Back()
	a.told.back()
	a.push(t, got)
	b.push(t, got)
	got[0] = 'T'
	a.all(t)
	b.push(t, got)
	a.all(t)
	b.all(t)
}

// Many at a time, each with a tape of its own, answer what each answers alone.
func TestSideBySide(t *testing.T) {
	var all sync.WaitGroup
	for n := range 8 {
		all.Go(func() {
			x, _ := rewind.NewTape(5)
			list := [][]byte{}
			for i := range 200 {
				data := bytes.Repeat([]byte{byte(n), byte(i), 0, 0, 0}, 20)
				list = append(list, data)
				x.Push(data)
				if l, e := x.At(min(i, 4)); e != api.OK || !bytes.Equal(l, list[max(0, i-4)]) {
					t.Errorf("P2: tape %d, push %d: %s, error %d", n, i, short(l), e)
				}
			}
		})
	}
	all.Wait()
}
