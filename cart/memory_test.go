package cart_test

import (
	"bytes"
	"slices"
	"testing"

	"tandem/api"
	"tandem/cart"
)

// roomy is a list with spare room that tells whether it was written to.
func roomy(l []byte) []byte {
	return slices.Concat(l, bytes.Repeat([]byte{0xa5}, 64))[:len(l)]
}

// lists is a cartridge's lists with their spare room.
func lists(c api.Cart) [][]byte {
	return [][]byte{c.Trainer[:cap(c.Trainer)], c.Prg[:cap(c.Prg)], c.Chr[:cap(c.Chr)], c.Rest[:cap(c.Rest)]}
}

// roomyCart is a cartridge each of whose lists has spare room.
func roomyCart(c api.Cart) api.Cart {
	c.Trainer, c.Prg, c.Chr, c.Rest = roomy(c.Trainer), roomy(c.Prg), roomy(c.Chr), roomy(c.Rest)
	return c
}

func cloneAll(all [][]byte) [][]byte {
	out := make([][]byte, len(all))
	for i, l := range all {
		out[i] = slices.Clone(l)
	}
	return out
}

// wantApart writes over each list of an answer, spare room too, and looks at all other lists.
func wantApart(t *testing.T, name string, answer, others [][]byte) {
	t.Helper()
	for i := range answer {
		rest := slices.Concat(answer[:i], answer[i+1:], others)
		before := cloneAll(rest)
		for j := range answer[i] {
			answer[i][j] ^= 0xff
		}
		for k := range rest {
			if !bytes.Equal(rest[k], before[k]) {
				t.Errorf("P1.7: %s: list %d of the answer shares memory with another", name, i)
			}
		}
	}
}

// emptied are cartridges of every format, some of whose lists are empty and yet have room.
func emptied() []api.Cart {
	c := nes2()
	c.Misc, c.Trainer, c.Chr, c.Rest = 0, nil, nil, nil
	return []api.Cart{archaic(), ines(), nes2(), c}
}

func TestArgumentsStay(t *testing.T) {
	for _, c := range emptied() {
		c = roomyCart(c)
		before := cloneAll(lists(c))
		number := numbers(c)
		l, _, _ := cart.Print(c)
		cart.Check(c)
		cart.Sum(c)
		cart.Crc(c.Prg)
		for format := -1; format < 4; format++ {
			cart.Convert(c, format)
		}
		if !slices.EqualFunc(lists(c), before, bytes.Equal) || numbers(c) != number {
			t.Errorf("P1.7: a cartridge of format %d was changed", c.Format)
		}
		b := roomy(l)
		whole := slices.Clone(b[:cap(b)])
		cart.Parse(b)
		cart.Crc(b)
		if !bytes.Equal(b[:cap(b)], whole) {
			t.Errorf("P1.7: an image of format %d was changed", c.Format)
		}
	}
}

func TestAnswersAreNew(t *testing.T) {
	for _, c := range emptied() {
		c = roomyCart(c)
		l, _, _ := cart.Print(c)
		m, _, _ := cart.Print(c)
		wantApart(t, "Print", [][]byte{l[:cap(l)]}, append(lists(c), m[:cap(m)]))
		b := roomy(m)
		p, _, _ := cart.Parse(b)
		q, _, _ := cart.Parse(b)
		wantApart(t, "Parse", lists(p), append(lists(q), b[:cap(b)]))
		d, _, _ := cart.Convert(c, c.Format)
		f, _, _ := cart.Convert(c, c.Format)
		wantApart(t, "Convert", lists(d), append(lists(f), lists(c)...))
	}
	for to := range 3 {
		c := roomyCart(common(1))
		d, _, _ := cart.Convert(c, to)
		wantApart(t, "Convert to another format", lists(d), lists(c))
	}
}

// TestNothingKept: an answer is the same whatever was asked ahead of it, and is not changed by what is asked behind it.
func TestNothingKept(t *testing.T) {
	b, _, _ := cart.Print(nes2())
	first, _, _ := cart.Parse(b)
	kept := copied(first)
	for _, other := range [][]byte{nil, []byte("NEX"), head(1), image(head(1), 16384), bytes.Repeat([]byte{0xff}, 40000)} {
		cart.Parse(other)
		cart.Crc(other)
	}
	for _, c := range emptied() {
		cart.Print(c)
		cart.Convert(c, 2)
		cart.Sum(c)
	}
	again, e, at := cart.Parse(b)
	if e != api.OK || at != 0 || !same(again, kept) || !same(first, kept) {
		t.Errorf("P1.7: Parse asked twice: %d, %d", e, at)
	}
	if cart.Crc([]byte("123456789")) != 0xcbf43926 {
		t.Error("P1.7: Crc asked again")
	}
}

// TestNilAndEmpty: a list that is nil and one that is empty are the same.
func TestNilAndEmpty(t *testing.T) {
	a := api.Cart{Format: 2, Prg: list(16384, 1)}
	b := a
	b.Trainer, b.Chr, b.Rest = []byte{}, []byte{}, []byte{}
	l, e, n := cart.Print(a)
	m, f, o := cart.Print(b)
	if e != api.OK || f != api.OK || n != 0 || o != 0 || !bytes.Equal(l, m) {
		t.Errorf("P1.3: nil and empty lists: %d, %d", e, f)
	}
	for format := range 3 {
		c, e, n := cart.Convert(a, format)
		d, f, o := cart.Convert(b, format)
		if e != f || n != o || !same(c, d) {
			t.Errorf("P1.5: nil and empty lists: %d, %d and %d, %d", e, n, f, o)
		}
	}
	b.Prg = []byte{}
	if e, n := cart.Check(b); e != api.ErrField || n != 16 {
		t.Errorf("P1.2: an empty PRG: %d, %d", e, n)
	}
	if cart.Sum(b) != 0 || cart.Sum(api.Cart{}) != 0 {
		t.Error("P1.6: Sum of empty lists")
	}
}
