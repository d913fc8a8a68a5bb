package snap_test

import (
	"bytes"
	"fmt"
	"slices"
	"testing"

	"tandem/api"
	"tandem/cart"
	"tandem/snap"
)

// Of the first bytes: each that is not there, each that is another one, and of several the first.
func TestOpening(t *testing.T) {
	data := saves(t, "opening", 0, first(t, nrom()))
	refused(t, "nil", 0, nil, api.ErrShort, 0)
	for n := range 15 {
		refused(t, fmt.Sprintf("%d bytes", n), 0, data[:n], api.ErrShort, n)
	}
	for i := range 6 {
		want := api.ErrMagic
		if i == 5 {
			want = api.ErrVersion
		}
		for v := range 256 {
			if uint8(v) == data[i] {
				continue
			}
			wrong := with(data, i, uint8(v))
			refused(t, fmt.Sprintf("byte %d is %d", i, v), 1, wrong, want, i)
			refused(t, fmt.Sprintf("byte %d is %d and the last one", i, v), 1, wrong[:i+1], want, i)
			refused(t, fmt.Sprintf("byte %d is %d and not there", i, v), 1, wrong[:i], api.ErrShort, i)
			for k := i + 1; k < 20; k++ {
				refused(t, fmt.Sprintf("the bytes %d and %d", i, k), 1, with(wrong, k, ^data[k]), want, i)
			}
		}
	}
}

// The length is asked ahead of all else, and is no fault by itself up to MaxSnap.
func TestLong(t *testing.T) {
	data := saves(t, "long", 0, first(t, nrom()))
	for _, n := range []int{api.MaxSnap + 1, api.MaxSnap + 2, 1 << 20} {
		refused(t, "zeros", 0, make([]byte, n), api.ErrLong, 0)
		refused(t, "a snapshot and more", 0, join(data, make([]byte, n-small)), api.ErrLong, 0)
	}
	refused(t, "MaxSnap zeros", 0, make([]byte, api.MaxSnap), api.ErrMagic, 0)
	refused(t, "MaxSnap bytes", 0, join(data, make([]byte, api.MaxSnap-small)), api.ErrTail, small)
	wrong := bytes.Repeat([]byte{0xff}, api.MaxSnap)
	copy(wrong, data[:6])
	refused(t, "MaxSnap wrong bytes", 0, wrong, api.ErrChunk, 6)
}

// bothForms is a small snapshot and a full one, with their sums.
func bothForms(t *testing.T) map[uint32][]byte {
	t.Helper()
	sum, _, data := full(t)
	return map[uint32][]byte{0: saves(t, "small", 0, first(t, nrom())), sum: data}
}

// Each byte of each chunk's name, length and sum.
func TestSpoiltChunks(t *testing.T) {
	t.Parallel()
	for sum, data := range bothForms(t) {
		for _, p := range places(data) {
			for i := range 4 {
				for v := range 256 {
					spoilt(t, p.name+": name", sum, data, p.at+i, uint8(v), api.ErrChunk, p.at)
					spoilt(t, p.name+": length", sum, data, p.at+4+i, uint8(v), api.ErrWeight, p.at+4)
					spoilt(t, p.name+": sum", sum, data, p.sum+i, uint8(v), api.ErrSum, p.sum)
				}
			}
		}
	}
}

// spoilt asks for the fault of a snapshot in which a byte is that one, if it was not that one before.
func spoilt(t *testing.T, what string, sum uint32, data []byte, at int, v uint8, e api.Errno, place int) {
	t.Helper()
	if data[at] != v {
		refused(t, fmt.Sprintf("%s: byte %d is %d", what, at, v), sum, with(data, at, v), e, place)
	}
}

// One chunk's name in the place of another's, with the sum made anew.
func TestOtherNames(t *testing.T) {
	for sum, data := range bothForms(t) {
		for _, p := range places(data) {
			next := ""
			if rare(p.name) {
				next = toldNames[slices.Index(toldNames, p.name)+1]
			}
			for _, name := range append(slices.Clone(toldNames), "head", "END\x00", "\x00\x00\x00\x00") {
				wrong := bytes.Clone(data)
				copy(wrong[p.at:], name)
				late := p.name == "BRD_" && name == "WORK" || p.name == "PAD_" && name == "CHR_"
				switch mending := resummed(wrong, p); {
				case name == p.name:
				case name == next:
					refused(t, p.name+" named as the next one", sum, mending, api.ErrWeight, p.at+4)
				case late && len(data) == small:
					refused(t, p.name+" named as the one that may stand there", sum, mending, api.ErrWeight, p.at+4)
				default:
					refused(t, p.name+" named "+name, sum, mending, api.ErrChunk, p.at)
				}
			}
		}
	}
}

// resummed is a snapshot in which the sum of one chunk is right.
func resummed(data []byte, p place) []byte {
	l := bytes.Clone(data)
	sum := cart.Crc(l[p.at:p.sum])
	copy(l[p.sum:], []byte{byte(sum), byte(sum >> 8), byte(sum >> 16), byte(sum >> 24)})
	return l
}

// A length that is another one is refused though body and sum fit it.
func TestOtherLengths(t *testing.T) {
	for sum, data := range bothForms(t) {
		for _, p := range places(data) {
			body := data[p.body:p.sum]
			longer := chunk(p.name, join(body, []byte{0}))
			refused(t, p.name+": a byte more", sum, join(data[:p.at], longer, data[p.end:]), api.ErrWeight, p.at+4)
			if len(body) > 0 {
				shorter := chunk(p.name, body[1:])
				refused(t, p.name+": a byte less", sum, join(data[:p.at], shorter, data[p.end:]), api.ErrWeight, p.at+4)
				refused(t, p.name+": no body", sum, join(data[:p.at], chunk(p.name, nil), data[p.end:]), api.ErrWeight, p.at+4)
			}
		}
	}
}

// Where a chunk must begin: what is told ahead of what where few bytes are left.
func TestFewLeft(t *testing.T) {
	for sum, data := range bothForms(t) {
		for _, p := range places(data) {
			wrongName := with(data, p.at, 'x')
			wrongSize := with(data, p.at+7, 1)
			for left := range 8 {
				refused(t, p.name+": a wrong name cut short", sum, wrongName[:p.at+left], api.ErrShort, p.at+left)
			}
			refused(t, p.name+": a wrong name at the end", sum, wrongName[:p.body], api.ErrChunk, p.at)
			refused(t, p.name+": a wrong length at the end", sum, wrongSize[:p.body], api.ErrWeight, p.at+4)
			for _, to := range []int{p.body, p.sum, p.end - 1} {
				refused(t, p.name+": no body or no sum", sum, data[:to], api.ErrShort, to)
				refused(t, p.name+": a wrong body cut short", sum, with(data, p.end-1, ^data[p.end-1])[:to], api.ErrShort, to)
			}
			refused(t, p.name+": a wrong sum at the end", sum, with(data, p.end-1, ^data[p.end-1])[:p.end], api.ErrSum, p.sum)
		}
	}
}

// A chunk missing: only WORK and CHR_ may.
func TestMissingChunks(t *testing.T) {
	for sum, data := range bothForms(t) {
		for _, p := range places(data) {
			without := join(data[:p.at], data[p.end:])
			switch {
			case p.name == "END_":
				refused(t, "no END_", sum, without, api.ErrShort, len(without))
			case rare(p.name):
				s, _, _ := snap.Load(sum, data)
				if p.name == "WORK" {
					s.Mem.Work = [8192]uint8{}
				} else {
					s.Mem.Video.Chr = [8192]uint8{}
				}
				loads(t, "no "+p.name, sum, without, &s)
			default:
				refused(t, "no "+p.name, sum, without, api.ErrChunk, p.at)
			}
		}
	}
}

// A chunk twice, and two that lie side by side in another order.
func TestMovedChunks(t *testing.T) {
	for sum, data := range bothForms(t) {
		list := places(data)
		for i, p := range list {
			twice := join(data[:p.end], data[p.at:])
			if p.name == "END_" {
				refused(t, "END_ twice", sum, twice, api.ErrTail, p.end)
				break
			}
			refused(t, p.name+" twice", sum, twice, api.ErrChunk, p.end)
			q := list[i+1]
			at := p.at
			if rare(p.name) { // it is taken for left out, and stands where the one behind the next must
				at += q.end - q.at
			}
			refused(t, p.name+" behind "+q.name, sum, join(data[:p.at], data[q.at:q.end], data[p.at:p.end], data[q.end:]), api.ErrChunk, at)
		}
	}
}

// Every order but the one is refused, with all sums right: each chunk in each other's place.
func TestOrder(t *testing.T) {
	sum, _, data := full(t)
	list := places(data)
	for i := range list {
		for k := range list {
			if i == k {
				continue
			}
			order := slices.Clone(list)
			order[i], order[k] = order[k], order[i]
			out := bytes.Clone(data[:6])
			for _, p := range order {
				out = append(out, data[p.at:p.end]...)
			}
			want, e, at := toldLoad(sum, out)
			if e != api.ErrChunk && e != api.ErrWeight {
				t.Fatalf("%s for %s: the second form takes it: %d", list[i].name, list[k].name, e)
			}
			agrees(t, list[i].name+" for "+list[k].name, sum, out, &want, e, at)
		}
	}
}

// agrees asks for an answer.
func agrees(t testing.TB, what string, sum uint32, data []byte, want *api.State, e api.Errno, at int) {
	t.Helper()
	if e == api.OK {
		loads(t, what, sum, data, want)
		return
	}
	refused(t, what, sum, data, e, at)
}

// A WORK or a CHR_ whose body is all 0, and one of which just one byte is not.
func TestEmptyMemories(t *testing.T) {
	for sum, data := range bothForms(t) {
		for _, name := range []string{"WORK", "CHR_"} {
			at := placeOf(t, data, toldNames[slices.Index(toldNames, name)+1]).at
			behind := data[at:]
			if len(data) > small {
				at = placeOf(t, data, name).at
			}
			put := func(body []byte) []byte { return join(data[:at], chunk(name, body), behind) }
			body := make([]byte, 8192)
			refused(t, name+" of zeros", sum, put(body), api.ErrChunk, at)
			wrong := put(body)
			wrong[at+8200] ^= 1
			refused(t, name+" of zeros with a wrong sum", sum, wrong, api.ErrSum, at+8200)
			refused(t, name+" of zeros, and another sum", sum+1, put(body), api.ErrChunk, at)
			refused(t, name+" of zeros, and a byte behind the end", sum, join(put(body), []byte{0}), api.ErrChunk, at)
			for _, i := range []int{0, 1, 4095, 8190, 8191} {
				body := make([]byte, 8192)
				body[i] = 1
				s, _, _ := snap.Load(sum, data)
				if name == "WORK" {
					s.Mem.Work = [8192]uint8(body)
				} else {
					s.Mem.Video.Chr = [8192]uint8(body)
				}
				loads(t, name+" of one byte", sum, put(body), &s)
			}
		}
	}
}

// Bytes behind END_.
func TestTail(t *testing.T) {
	for sum, data := range bothForms(t) {
		for v := range 256 {
			refused(t, "a byte more", sum, join(data, []byte{byte(v)}), api.ErrTail, len(data))
		}
		for _, n := range []int{2, 7, 8, 11, 12, 13, 4096, api.MaxSnap - len(data)} {
			refused(t, "zeros more", sum, join(data, make([]byte, n)), api.ErrTail, len(data))
		}
		refused(t, "itself once more", sum, join(data, data), api.ErrTail, len(data))
		refused(t, "a chunk more", sum, join(data, chunk("MORE", []byte("more"))), api.ErrTail, len(data))
	}
}
