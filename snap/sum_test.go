package snap

import (
	"testing"

	"tandem/cart"
)

// The table is what its rule says: a half of a byte at its place in a word, with the rest of the word shifted out behind it.
func TestTurns(t *testing.T) {
	for place, row := range turns {
		for half, got := range row {
			want := uint32(half)
			for range 32 - 4*place {
				if want&1 != 0 {
					want = want>>1 ^ 0xedb88320
				} else {
					want >>= 1
				}
			}
			if got != want {
				t.Errorf("turns[%d][%d] is %#x, want %#x", place, half, got, want)
			}
		}
	}
}

// The sum is cart.Crc, for any number of bytes: the last ones fill no word.
func TestSumOf(t *testing.T) {
	data := make([]byte, 300)
	for i := range data {
		data[i] = byte(i*i*7 + i>>3)
	}
	for from := range 8 {
		for to := from; to <= len(data); to++ {
			if got, want := sumOf(data[from:to]), cart.Crc(data[from:to]); got != want {
				t.Errorf("the bytes %d to %d: %#x, want %#x", from, to, got, want)
			}
		}
	}
	for bit := range 32 {
		word := []byte{0, 0, 0, 0}
		word[bit/8] = 1 << (bit % 8)
		if got, want := sumOf(word), cart.Crc(word); got != want {
			t.Errorf("bit %d alone: %#x, want %#x", bit, got, want)
		}
	}
}

// The bodies have the lengths that the table tells: what carries them fills them to their end, and reads nothing else.
func TestSizes(t *testing.T) {
	for i, c := range chunks {
		w := saved{}
		out := writer{make([]byte, c.size)}
		w.carry(i, &out)
		if len(out.left) != 0 {
			t.Errorf("%s: %d bytes are not filled", c.name, len(out.left))
		}
		in := reader{left: make([]byte, c.size), at: 100, wrong: nowhere}
		w.carry(i, &in)
		if len(in.left) != 0 || in.at != 100+c.size {
			t.Errorf("%s: %d bytes are not read", c.name, len(in.left))
		}
	}
}

// A body can't be appended to without being copied.
func TestBodiesAreCutOff(t *testing.T) {
	s := saved{}
	s.Mem.Work[0], s.Mem.Video.Chr[0] = 1, 1
	data := append([]byte{}, opening...)
	for i, c := range chunks {
		at := len(data)
		data = append(data, make([]byte, headSize+c.size+sumSize)...)
		s.lay(i, data, at)
	}
	pieces, f := cut(data)
	if f != (fault{}) {
		t.Fatalf("%+v", f)
	}
	for i, p := range pieces {
		if len(p.body) != chunks[i].size || cap(p.body) != len(p.body) {
			t.Errorf("%s: %d bytes with room for %d", chunks[i].name, len(p.body), cap(p.body))
		}
	}
}
