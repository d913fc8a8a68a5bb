package rewind_test

import (
	"bytes"
	"encoding/hex"
	"hash/crc32"
	"math/rand"
	"strings"
	"testing"

	"tandem/api"
	"tandem/rewind"
)

// hexed is the bytes that a text tells.
func hexed(t testing.TB, text string) []byte {
	t.Helper()
	l, err := hex.DecodeString(strings.ReplaceAll(text, " ", ""))
	if err != nil {
		t.Fatalf("%q: %v", text, err)
	}
	return l
}

// join is lists one behind the other.
func join(lists ...[]byte) []byte { return bytes.Join(lists, nil) }

// summed is a patch's bytes with the sum of what it makes behind them.
func summed(patch, to []byte) []byte {
	c := crc32.ChecksumIEEE(to)
	return join(patch, []byte{byte(c), byte(c >> 8), byte(c >> 16), byte(c >> 24)})
}

// short is a list in words.
func short(l []byte) string {
	if len(l) > 40 {
		return hex.EncodeToString(l[:40]) + " .."
	}
	return hex.EncodeToString(l)
}

// patchIs asks for the patch between two lists, and that it leads from the one to the other.
func patchIs(t testing.TB, what string, from, to, want []byte) {
	t.Helper()
	if got := rewind.Diff(from, to); !bytes.Equal(got, want) {
		t.Fatalf("17.1: %s: Diff(%s, %s), of %d and %d bytes, is %s, want %s", what, short(from), short(to), len(from), len(to), short(got), short(want))
	}
	made(t, what, from, want, to)
}

// made asks that a patch makes a list.
func made(t testing.TB, what string, from, patch, want []byte) {
	t.Helper()
	got, e := rewind.Patch(from, patch)
	if e != api.OK || !bytes.Equal(got, want) {
		t.Fatalf("17.1: %s: Patch(%s, %s) is %s, error %d, want %s", what, short(from), short(patch), short(got), e, short(want))
	}
}

// refused asks that a patch is refused with that error.
func refused(t testing.TB, what string, from, patch []byte, want api.Errno) {
	t.Helper()
	got, e := rewind.Patch(from, patch)
	if e != want || len(got) != 0 {
		t.Fatalf("17.1: %s: Patch(%s, %s) is %s, error %d, want error %d", what, short(from), short(patch), short(got), e, want)
	}
}

// random is numbers that are the same in every run.
func random(seed int64) *rand.Rand { return rand.New(rand.NewSource(1700 + seed)) }

// some picks one of a list.
func some[T any](r *rand.Rand, l ...T) T { return l[r.Intn(len(l))] }

// anyBytes is so many bytes, of 0 up to top.
func anyBytes(r *rand.Rand, n, top int) []byte {
	l := make([]byte, n)
	for i := range l {
		l[i] = byte(r.Intn(top + 1))
	}
	return l
}

// changed is a list in which some runs of bytes are others.
func changed(r *rand.Rand, l []byte, runs int) []byte {
	l = bytes.Clone(l)
	for range runs {
		if len(l) > 0 {
			at := r.Intn(len(l))
			for i := range l[at:min(len(l), at+1+r.Intn(9))] {
				l[at+i] ^= byte(r.Intn(3))
			}
		}
	}
	return l
}

// recut is a list that is cut or has bytes behind it.
func recut(r *rand.Rand, l []byte) []byte {
	if r.Intn(2) == 0 {
		return bytes.Clone(l[:r.Intn(len(l)+1)])
	}
	return join(l, anyBytes(r, r.Intn(12), 1))
}

// taped is an empty tape.
func taped(t testing.TB, limit int) *rewind.Tape {
	t.Helper()
	x, e := rewind.NewTape(limit)
	if e != api.OK || x == nil {
		t.Fatalf("17.2: NewTape(%d): %v, error %d", limit, x, e)
	}
	return x
}

// pair is an empty tape with its second form beside it.
func pair(t testing.TB, limit int) *both {
	return &both{taped(t, limit), toldTape{limit: limit}}
}

func (b *both) push(t testing.TB, data []byte) {
	t.Helper()
	if e, want := b.tape.Push(data), b.told.push(data); e != want {
		t.Fatalf("17.2: Push of %d bytes: error %d, want %d", len(data), e, want)
	}
	b.holds(t, "Push")
}

func (b *both) back(t testing.TB) {
	t.Helper()
	got, e := b.tape.Back()
	want, f := b.told.back()
	if e != f || !bytes.Equal(got, want) {
		t.Fatalf("17.2: Back: %s, error %d, want %s, error %d", short(got), e, short(want), f)
	}
	b.holds(t, "Back")
}

func (b *both) at(t testing.TB, i int) {
	t.Helper()
	got, e := b.tape.At(i)
	want, f := b.told.at(i)
	if e != f || !bytes.Equal(got, want) {
		t.Fatalf("17.2: At(%d) of %d: %s, error %d, want %s, error %d", i, len(b.told.list), short(got), e, short(want), f)
	}
	b.holds(t, "At")
}

// holds asks how much there is.
func (b *both) holds(t testing.TB, what string) {
	t.Helper()
	if n, want := b.tape.Len(), len(b.told.list); n != want {
		t.Fatalf("17.2: behind %s: Len %d, want %d", what, n, want)
	}
	if n, want := b.tape.Bytes(), b.told.bytes(); n != want {
		t.Fatalf("17.2: behind %s: Bytes %d, want %d", what, n, want)
	}
}

// all asks for every snapshot, and for those that are not there.
func (b *both) all(t testing.TB) {
	t.Helper()
	for i := -1; i <= len(b.told.list); i++ {
		b.at(t, i)
	}
}
