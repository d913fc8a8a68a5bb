package rewind_test

import (
	"bytes"
	"fmt"
	"math"
	"math/bits"
	"slices"
	"testing"

	"tandem/api"
	"tandem/rewind"
)

// change is two lists with a patch in which each kind of part is.
type change struct {
	name     string
	from, to []byte
}

func changes() []change {
	r := random(20)
	ones := bytes.Repeat([]byte{1}, 700)
	far := bytes.Clone(ones)
	for i := range 200 {
		far[300+i] ^= byte(1 + i%9)
	}
	far[0], far[150], far[699] = 9, 9, 9
	noise := anyBytes(r, 40, 255)
	return []change{
		{"nothing", nil, nil},
		{"nothing to one", nil, []byte{1}},
		{"one to nothing", []byte{1}, nil},
		{"alike", []byte("123456789"), []byte("123456789")},
		{"one run", make([]byte, 5), []byte{0, 1, 0, 2, 0}},
		{"two runs", make([]byte, 6), []byte{1, 0, 0, 0, 0, 2}},
		{"three runs, 0 behind", make([]byte, 20), []byte{0, 1, 0, 0, 0, 0, 2, 0, 0, 0, 3, 0, 0, 0, 0, 0, 4, 0, 0, 0}},
		{"longer", noise[:9], changed(r, noise, 4)},
		{"shorter", noise, changed(r, noise, 4)[:30]},
		{"numbers of two bytes", ones, far},
	}
}

// A patch in which one byte is replaced by another is refused, whichever byte it is.
func TestByteReplaced(t *testing.T) {
	for _, c := range changes() {
		patch := rewind.Diff(c.from, c.to)
		for i, was := range patch {
			for v := range 256 {
				if byte(v) != was {
					patch[i] = byte(v)
					refused(t, fmt.Sprintf("%s: byte %d is %#x", c.name, i, v), c.from, patch, api.ErrPatch)
				}
			}
			patch[i] = was
		}
		made(t, c.name, c.from, patch, c.to)
	}
}

// So is one that is cut short anywhere, lacks bytes in the middle, or has bytes behind it.
func TestCutAndTail(t *testing.T) {
	for _, c := range changes() {
		patch := rewind.Diff(c.from, c.to)
		for n := range patch {
			refused(t, fmt.Sprintf("%s: cut at %d", c.name, n), c.from, patch[:n], api.ErrPatch)
			without := slices.Delete(bytes.Clone(patch), n, n+1)
			refused(t, fmt.Sprintf("%s: without byte %d", c.name, n), c.from, without, api.ErrPatch)
		}
		for _, tail := range [][]byte{{0}, {0, 0}, {1}, patch[len(patch)-4:], patch, make([]byte, 1<<20)} {
			refused(t, c.name+": bytes behind it", c.from, join(patch, tail), api.ErrPatch)
			refused(t, c.name+": bytes ahead of it", c.from, join(tail, patch), api.ErrPatch)
		}
	}
}

// wrapped is a number with 2^bit added, in as many groups as that takes, though it goes beyond 64 bits.
func wrapped(n uint64, bit int) []byte {
	l := number(n)
	l[len(l)-1] |= 0x80
	for len(l) < bit/7 {
		l = append(l, 0x80)
	}
	if len(l) > bit/7 {
		return number(n + 1<<(bit%64))
	}
	return append(l, byte(1)<<(bit%7))
}

// wrongNumbers is one number written in other ways, and other numbers in its place.
func wrongNumbers(right []byte) [][]byte {
	n, _, _ := toldNumber(right)
	list := [][]byte{}
	for extra := 1; extra < 12; extra++ { // the same with bytes too many
		l := bytes.Clone(right)
		l[len(l)-1] |= 0x80
		l = append(l, bytes.Repeat([]byte{0x80}, extra-1)...)
		list = append(list, append(l, 0))
	}
	for _, bit := range []int{14, 15, 16, 17, 20, 21, 28, 31, 32, 35, 42, 49, 56, 62, 63, 64, 70, 77, 128} {
		list = append(list, wrapped(n, bit))
	}
	for _, v := range []uint64{n + 1, n + 2, n + 4, n + 127, n + 128, 65535, 65536, 65537, 1<<21 - 1, 1 << 21, math.MaxInt32, math.MaxUint32, math.MaxInt64, 1 << 63, math.MaxUint64, -n, ^n} {
		list = append(list, number(v))
	}
	for _, v := range []uint64{0, 1, n - 1, n / 2} {
		if bits.Len64(v) <= bits.Len64(n) {
			list = append(list, number(v))
		}
	}
	return append(list, nil, bytes.Repeat([]byte{0x80}, 70000), bytes.Repeat([]byte{0xff}, 11))
}

// Every number of a patch, a byte too long, too great, too small, and missing, the sum being right.
func TestWrongNumbers(t *testing.T) {
	for _, c := range changes() {
		parts := toldParts(c.from, c.to)
		for i := 1; i < len(parts)-1; i++ {
			if i > 2 && i%3 == 2 && i < len(parts)-3 {
				continue // a run's bytes
			}
			for _, wrong := range wrongNumbers(parts[i]) {
				if bytes.Equal(wrong, parts[i]) {
					continue
				}
				other := slices.Clone(parts)
				other[i] = wrong
				refused(t, fmt.Sprintf("%s: part %d is %s", c.name, i, short(wrong)), c.from, join(other...), api.ErrPatch)
			}
		}
	}
}

// laid is a patch with these runs, whatever they are.
func laid(from, to []byte, runs []toldRun) []byte {
	patch := join([]byte("TP"), number(uint64(len(from))), number(uint64(len(to))))
	for _, r := range runs {
		patch = join(patch, number(uint64(r.skip)), number(uint64(len(r.bytes))), r.bytes)
	}
	return summed(append(patch, 0, 0), to)
}

// Runs that make the right list, but begin or end elsewhere.
func TestWrongRuns(t *testing.T) {
	for _, c := range changes() {
		x := toldX(c.from, c.to)
		right := toldRuns(x)
		made(t, c.name, c.from, laid(c.from, c.to, right), c.to)
		at := 0
		for i, run := range right {
			at += run.skip
			end := at + len(run.bytes)
			var next toldRun
			rest := right[i+1:]
			if len(rest) > 0 {
				next = rest[0]
			}
			instead := func(what string, runs ...toldRun) {
				refused(t, c.name+": "+what, c.from, laid(c.from, c.to, slices.Concat(right[:i], runs)), api.ErrPatch)
			}
			for cut := 1; cut < len(run.bytes); cut++ {
				instead("a run cut in two", append([]toldRun{{run.skip, run.bytes[:cut]}, {0, run.bytes[cut:]}}, rest...)...)
				if run.bytes[cut-1] == 0 {
					instead("a run cut in two at a 0", append([]toldRun{{run.skip, run.bytes[:cut-1]}, {1, run.bytes[cut:]}}, rest...)...)
				}
			}
			if run.skip > 0 {
				instead("a run with a 0 ahead", append([]toldRun{{run.skip - 1, join([]byte{0}, run.bytes)}}, rest...)...)
			}
			if len(rest) > 0 {
				joined := x[at : end+next.skip+len(next.bytes)]
				instead("two runs joined", append([]toldRun{{run.skip, joined}}, rest[1:]...)...)
				behind := append([]toldRun{{run.skip, x[at : end+1]}, {next.skip - 1, next.bytes}}, rest[1:]...)
				instead("a run with a 0 behind", behind...)
				instead("runs out of order", append([]toldRun{next, run}, rest[1:]...)...)
			} else {
				for more := end + 1; more <= len(x); more++ {
					instead("the last run with 0 behind", toldRun{run.skip, x[at:more]})
					instead("a run of 0 behind the last", run, toldRun{0, x[end:more]})
					instead("a run of no bytes behind the last", run, toldRun{more - end, nil})
				}
				for more := 1; more < 9; more++ {
					instead("a run beyond the end", toldRun{run.skip, join(x[at:], make([]byte, more))})
					instead("a run that begins beyond the end", run, toldRun{len(x) - end + more, []byte{1}})
				}
			}
			instead("a run missing", rest...)
			instead("a run twice", append([]toldRun{run, run}, rest...)...)
			instead("a run of no bytes", append([]toldRun{{0, nil}, run}, rest...)...)
			for n := 1; n <= run.skip; n++ {
				instead("a run of no bytes that passes some over", append([]toldRun{{n, nil}, {run.skip - n, run.bytes}}, rest...)...)
			}
			at = end
		}
	}
}

// The end missing, twice, with another number, ahead of the last run; and a sum that is missing, another's, or laid the other way round.
func TestWrongEnd(t *testing.T) {
	for _, c := range changes() {
		patch := rewind.Diff(c.from, c.to)
		n := len(patch)
		head, sum := patch[:n-6], patch[n-4:]
		back := bytes.Clone(sum)
		slices.Reverse(back)
		for _, x := range []struct {
			what  string
			patch []byte
		}{
			{"without the end", join(head, sum)},
			{"half an end", join(head, []byte{0}, sum)},
			{"the end twice", join(head, []byte{0, 0, 0, 0}, sum)},
			{"an end that passes bytes over", join(head, []byte{1, 0}, sum)},
			{"an end that passes four bytes over", join(head, []byte{4, 0}, sum)},
			{"an end with a byte", join(head, []byte{0, 1}, sum)},
			{"an end with a byte that is there", join(head, []byte{0, 1, 1}, sum)},
			{"without the sum", join(head, []byte{0, 0})},
			{"the sum twice", join(patch, sum)},
			{"the sum of other bytes", summed(patch[:n-4], join(c.to, []byte{0}))},
			{"an empty sum", join(head, []byte{0, 0, 0, 0, 0, 0})},
			{"the sum the other way round", join(head, []byte{0, 0}, back)},
			{"other signs", join([]byte("PT"), patch[2:])},
			{"one sign", patch[1:]},
			{"no signs", patch[2:]},
		} {
			if !bytes.Equal(x.patch, patch) {
				refused(t, c.name+": "+x.what, c.from, x.patch, api.ErrPatch)
			}
		}
	}
}

// A patch that was made for another list is refused: of another length, or with another byte where it is looked at. It may be right for one that differs elsewhere.
func TestOtherFrom(t *testing.T) {
	for _, c := range changes() {
		patch := rewind.Diff(c.from, c.to)
		refused(t, c.name+": a longer one", join(c.from, []byte{0}), patch, api.ErrPatch)
		if len(c.from) > 0 {
			refused(t, c.name+": a shorter one", c.from[:len(c.from)-1], patch, api.ErrPatch)
		}
		for i := range c.from {
			other := bytes.Clone(c.from)
			other[i] ^= 0x10
			if i < len(c.to) {
				refused(t, fmt.Sprintf("%s: byte %d another", c.name, i), other, patch, api.ErrPatch)
			} else {
				made(t, fmt.Sprintf("%s: byte %d another", c.name, i), other, patch, c.to)
			}
		}
	}
}

// from that is too long goes ahead of whatever the patch is.
func TestTwoFaults(t *testing.T) {
	for _, n := range []int{api.MaxSnap + 1, 1 << 24} {
		long := make([]byte, n)
		for _, patch := range [][]byte{nil, {}, {0}, []byte("TP"), rewind.Diff(nil, nil), rewind.Diff(make([]byte, api.MaxSnap), nil), long, toldLong(n)} {
			refused(t, fmt.Sprintf("%d bytes", n), long, patch, api.ErrLong)
		}
	}
	from, to := make([]byte, 5), []byte{0, 1, 0, 2, 0}
	for _, s := range []string{
		"55 50 05 05 01 03 01 00 02 00 00 00",    // signs and a byte behind
		"54 50 04 05 01 83 00 01 00 02 00 00",    // from's length and a number too long
		"54 50 05 05 01 02 01 00 00 01 02 01 00", // two runs, the first with a 0 behind, and the end
	} {
		refused(t, "two faults", from, summed(hexed(t, s), to), api.ErrPatch)
	}
	for _, patch := range [][]byte{nil, {}, []byte("T"), []byte("TP"), make([]byte, 1<<24), bytes.Repeat([]byte{0xff}, 1<<20)} {
		refused(t, "no patch", from, patch, api.ErrPatch)
		refused(t, "no patch of nothing", nil, patch, api.ErrPatch)
	}
}

// toldLong is what the patch from so many bytes to none would be.
func toldLong(n int) []byte {
	return summed(join([]byte("TP"), number(uint64(n)), []byte{0, 0, 0}), nil)
}

// A patch to more than MaxSnap bytes is refused, though all else is right; one to MaxSnap bytes isn't.
func TestPatchToTooLong(t *testing.T) {
	for _, n := range []int{api.MaxSnap - 1, api.MaxSnap} {
		to := make([]byte, n)
		made(t, "to MaxSnap", nil, summed(join([]byte("TP\x00"), number(uint64(n)), []byte{0, 0}), to), to)
		to[n-1] = 1
		made(t, "to MaxSnap, a run", nil, summed(join([]byte("TP\x00"), number(uint64(n)), number(uint64(n-1)), []byte{1, 1, 0, 0}), to), to)
	}
	for _, n := range []int{api.MaxSnap + 1, 1<<21 - 1, 1 << 21, 1 << 24} {
		to := make([]byte, n)
		refused(t, "beyond MaxSnap", nil, summed(join([]byte("TP\x00"), number(uint64(n)), []byte{0, 0}), to), api.ErrPatch)
		to[n-1] = 1
		refused(t, "beyond MaxSnap, a run", nil, summed(join([]byte("TP\x00"), number(uint64(n)), number(uint64(n-1)), []byte{1, 1, 0, 0}), to), api.ErrPatch)
	}
}

// Any patches, sound and spoilt, with the sum put right or not: taken or refused as they are by the words.
func TestAnyPatches(t *testing.T) {
	r := random(21)
	taken := 0
	for range 60000 {
		from := anyBytes(r, r.Intn(30), 1)
		to := changed(r, from, r.Intn(4))
		if r.Intn(2) == 0 {
			to = recut(r, to)
		}
		parts := toldParts(from, to)
		for range some(r, 0, 1, 1, 2) {
			i := r.Intn(len(parts))
			parts[i] = some(r, anyBytes(r, r.Intn(6), 5), anyBytes(r, 1, 40), nil, join(parts[i], []byte{0}), parts[r.Intn(len(parts))])
		}
		patch := join(parts...)
		if r.Intn(3) == 0 && len(patch) > 4 {
			patch = summed(patch[:len(patch)-4], some(r, to, from))
		}
		if want, ok := toldPatch(from, patch); ok {
			taken++
			patchIs(t, "any", from, want, patch)
		} else {
			refused(t, "any", from, patch, api.ErrPatch)
		}
	}
	if taken < 10000 || taken > 50000 {
		t.Errorf("%d patches of 60000 were taken: the test asks too little", taken)
	}
}
