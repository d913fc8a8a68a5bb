package rewind_test

import (
	"bytes"
	"fmt"
	"testing"

	"tandem/api"
	"tandem/rewind"
)

// edges is the lengths at which something of a patch changes.
var edges = []int{0, 1, 2, 127, 128, 129, 255, 256, 16383, 16384, 16385, api.MaxSnap - 1, api.MaxSnap}

// Every pair of such lengths, over lists that are all 0, all others, alike, and any.
func TestLengths(t *testing.T) {
	r := random(1)
	noise := anyBytes(r, api.MaxSnap, 255)
	near := changed(r, noise, 300)
	ones := bytes.Repeat([]byte{0xff}, api.MaxSnap)
	zeros := make([]byte, api.MaxSnap)
	for _, n := range edges {
		for _, m := range edges {
			what := fmt.Sprintf("%d to %d bytes", n, m)
			patchIs(t, what+", alike", noise[:n], noise[:m], toldDiff(noise[:n], noise[:m]))
			patchIs(t, what+", near", noise[:n], near[:m], toldDiff(noise[:n], near[:m]))
			patchIs(t, what+", zeros", zeros[:n], zeros[:m], toldDiff(zeros[:n], zeros[:m]))
			patchIs(t, what+", all others", zeros[:n], ones[:m], toldDiff(zeros[:n], ones[:m]))
			patchIs(t, what+", to zeros", ones[:n], zeros[:m], toldDiff(ones[:n], zeros[:m]))
		}
	}
}

// A list that is longer than MaxSnap has no patch, on either side.
func TestTooLong(t *testing.T) {
	for _, n := range []int{api.MaxSnap + 1, 2 * api.MaxSnap, 1 << 24} {
		long := make([]byte, n)
		for _, other := range [][]byte{nil, {}, {1}, make([]byte, api.MaxSnap), long} {
			if l := rewind.Diff(long, other); len(l) != 0 {
				t.Errorf("17.1: Diff of %d and %d bytes: %s", n, len(other), short(l))
			}
			if l := rewind.Diff(other, long); len(l) != 0 {
				t.Errorf("17.1: Diff of %d and %d bytes: %s", len(other), n, short(l))
			}
		}
	}
}

// The numbers of runs at the edges of their groups: what is passed over, and how long they are.
func TestRunNumbers(t *testing.T) {
	for _, skip := range edges {
		for _, n := range edges {
			if n == 0 || skip+n > api.MaxSnap {
				continue
			}
			from := make([]byte, skip+n)
			to := join(from[:skip], bytes.Repeat([]byte{0x5a}, n))
			size := number(uint64(skip + n))
			patch := join([]byte("TP"), size, size, number(uint64(skip)), number(uint64(n)), to[skip:], []byte{0, 0})
			patchIs(t, fmt.Sprintf("a run of %d bytes behind %d", n, skip), from, to, summed(patch, to))
		}
	}
}

// Lists that are alike as far as the new one goes: there is no run, however long they are.
func TestNoRun(t *testing.T) {
	noise := anyBytes(random(2), api.MaxSnap, 255)
	for _, n := range edges {
		for _, m := range edges {
			from, to := noise[:n], noise[:min(n, m)]
			if m > n {
				to = join(from, make([]byte, m-n)) // behind from's end there is nothing but 0
			}
			patch := join([]byte("TP"), number(uint64(n)), number(uint64(len(to))), []byte{0, 0})
			patchIs(t, fmt.Sprintf("%d and %d bytes, alike", n, len(to)), from, to, summed(patch, to))
		}
	}
}

// Two runs with so many bytes between them that are 0: from four on they are two, below that one.
func TestParting(t *testing.T) {
	for _, ahead := range []int{0, 1, 3, 4, 5, 200} {
		for between := range 12 {
			for _, behind := range []int{0, 1, 2, 3, 4, 5, 6, 300} {
				x := join(make([]byte, ahead), []byte{7, 8}, make([]byte, between), []byte{9}, make([]byte, behind))
				runs := join(number(uint64(ahead)), []byte{2, 7, 8, byte(between), 1, 9})
				if between < 4 {
					runs = join(number(uint64(ahead)), []byte{byte(between + 3), 7, 8}, make([]byte, between), []byte{9})
				}
				from := anyBytes(random(3), len(x), 255)
				to := bytes.Clone(from)
				for i := range to {
					to[i] ^= x[i]
				}
				size := number(uint64(len(x)))
				patchIs(t, fmt.Sprintf("%d 0 between, %d behind", between, behind), from, to, summed(join([]byte("TP"), size, size, runs, []byte{0, 0}), to))
			}
		}
	}
}

// All lists of a few bytes: the patch is the told one, leads back, and no two lists have the same.
func TestSmall(t *testing.T) {
	froms := [][]byte{nil, {0}, {1}, {0, 0, 0, 0, 0, 0}, {1, 0, 0, 0, 0, 1}, {1, 1, 1, 1, 1, 1, 1, 1, 1, 1, 1}}
	for _, from := range froms {
		of := map[string]int{}
		count := 0
		for size := range 13 {
			for bits := range 1 << size {
				to := make([]byte, size)
				for i := range to {
					to[i] = byte(bits >> i & 1)
				}
				patchIs(t, "small", from, to, toldDiff(from, to))
				of[string(rewind.Diff(from, to))]++
				count++
			}
		}
		if len(of) != count {
			t.Fatalf("17.1: %d lists have %d patches out of %s", count, len(of), short(from))
		}
	}
}

// Any lists, alike here and there, one longer than the other or not.
func TestAnyLists(t *testing.T) {
	r := random(4)
	for range 20000 {
		from := anyBytes(r, some(r, r.Intn(8), r.Intn(60), r.Intn(400)), some(r, 1, 1, 255))
		to := anyBytes(r, r.Intn(60), some(r, 1, 1, 255))
		if r.Intn(4) > 0 {
			to = changed(r, from, r.Intn(6))
		}
		if r.Intn(3) == 0 {
			to = recut(r, to)
		}
		patchIs(t, "any", from, to, toldDiff(from, to))
	}
}
