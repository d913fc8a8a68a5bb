package rewind_test

import (
	"bytes"
	"testing"

	"tandem/api"
	"tandem/rewind"
)

// The chapter's examples 1 to 6, and more of their kind worked out by hand: the two lists, and the patch without its sum.
func TestDiffExamples(t *testing.T) {
	for _, x := range []struct{ what, from, to, head string }{
		{"1", "", "", "54 50 00 00 00 00"},
		{"2", "31 32 33 34 35 36 37 38 39", "31 32 33 34 35 36 37 38 39", "54 50 09 09 00 00"},
		{"3", "00 00 00 00 00", "00 01 00 02 00", "54 50 05 05 01 03 01 00 02 00 00"},
		{"4, two runs", "00 00 00 00 00 00", "01 00 00 00 00 02", "54 50 06 06 00 01 01 04 01 02 00 00"},
		{"4, one run", "00 00 00 00 00", "01 00 00 00 02", "54 50 05 05 00 05 01 00 00 00 02 00 00"},
		{"4, 0 up to the end", "00 00 00", "01 00 00", "54 50 03 03 00 01 01 00 00"},
		{"5, shorter", "AA", "AA BB", "54 50 01 02 01 01 BB 00 00"},
		{"5, longer", "AA BB", "AA", "54 50 02 01 00 00"},
		{"one byte", "", "01", "54 50 00 01 00 01 01 00 00"},
		{"a byte that is 0", "", "00", "54 50 00 01 00 00"},
		{"a byte to 0", "80", "00", "54 50 01 01 00 01 80 00 00"},
		{"nothing", "01 02 03", "", "54 50 03 00 00 00"},
		{"the last byte", "01 02 03", "01 02 83", "54 50 03 03 02 01 80 00 00"},
		{"both ends", "FF 00 00 00 00 00 FF", "00 00 00 00 00 00 00", "54 50 07 07 00 01 FF 05 01 FF 00 00"},
		{"behind from's end", "01", "02 00 00 00 00 00 05", "54 50 01 07 00 01 03 05 01 05 00 00"},
		{"three runs", "", "01 00 00 00 00 02 03 00 00 00 00 00 04 00", "54 50 00 0E 00 01 01 04 02 02 03 05 01 04 00 00"},
	} {
		from, to := hexed(t, x.from), hexed(t, x.to)
		patchIs(t, x.what, from, to, summed(hexed(t, x.head), to))
	}
}

// The sum's bytes, as the examples 1 and 2 tell them; and example 6.
func TestSumAndLengths(t *testing.T) {
	patchIs(t, "1", nil, nil, hexed(t, "54 50 00 00 00 00 00 00 00 00"))
	patchIs(t, "2", []byte("123456789"), []byte("123456789"), hexed(t, "54 50 09 09 00 00 26 39 F4 CB"))
	zeros := make([]byte, 300)
	patchIs(t, "6", zeros, zeros, summed(hexed(t, "54 50 AC 02 AC 02 00 00"), zeros))
	great := make([]byte, api.MaxSnap)
	patchIs(t, "MaxSnap", great, great, summed(hexed(t, "54 50 80 80 04 80 80 04 00 00"), great))
	full := bytes.Repeat([]byte{1}, api.MaxSnap)
	patchIs(t, "MaxSnap, all others", great, full, summed(join(hexed(t, "54 50 80 80 04 80 80 04 00 80 80 04"), full, hexed(t, "00 00")), full))
	last := bytes.Clone(great)
	last[api.MaxSnap-1] = 0x80
	patchIs(t, "MaxSnap, the last byte", great, last, summed(hexed(t, "54 50 80 80 04 80 80 04 FF FF 03 01 80 00 00"), last))
}

// Example 7, for every number of the patch, each byte of its sum and any byte behind it.
func TestExample7(t *testing.T) {
	from := []byte("123456789")
	made(t, "7", from, hexed(t, "54 50 09 09 00 00 26 39 F4 CB"), from)
	for _, s := range []string{
		"54 50 89 00 09 00 00 26 39 F4 CB",
		"54 50 09 89 00 00 00 26 39 F4 CB",
		"54 50 09 09 80 00 00 26 39 F4 CB",
		"54 50 09 09 00 80 00 26 39 F4 CB",
		"54 50 09 09 00 00 27 39 F4 CB",
		"54 50 09 09 00 00 26 79 F4 CB",
		"54 50 09 09 00 00 26 39 F0 CB",
		"54 50 09 09 00 00 26 39 F4 4B",
		"54 50 09 09 00 00 26 39 F4 CB 00",
		"54 50 09 09 00 00 26 39 F4 CB CB",
	} {
		refused(t, "7", from, hexed(t, s), api.ErrPatch)
	}
}

// Example 8: a tape with room for two.
func TestExample8(t *testing.T) {
	x := taped(t, 2)
	for _, s := range []string{"a", "b", "c"} {
		if e := x.Push([]byte(s)); e != api.OK {
			t.Fatalf("17.2: Push(%s): %d", s, e)
		}
	}
	if n := x.Len(); n != 2 {
		t.Fatalf("17.2: Len %d, want 2", n)
	}
	for _, want := range []string{"c", "b"} {
		if l, e := x.Back(); string(l) != want || e != api.OK {
			t.Fatalf("17.2: Back: %q, %d, want %q", l, e, want)
		}
	}
	for range 3 {
		if l, e := x.Back(); len(l) != 0 || e != api.ErrEmpty {
			t.Fatalf("17.2: Back of an empty tape: %q, %d", l, e)
		}
	}
}

// Example 9: how much room a snapshot and the same once more take.
func TestExample9(t *testing.T) {
	x := taped(t, 5)
	data := anyBytes(random(9), 1000, 255)
	for _, want := range []int{1000, 1012, 1024, 1036, 1048, 1048} {
		x.Push(data)
		if n := x.Bytes(); n != want {
			t.Fatalf("17.2: Bytes %d, want %d", n, want)
		}
	}
	for _, want := range []int{1036, 1024, 1012, 1000, 0, 0} {
		x.Back()
		if n := x.Bytes(); n != want {
			t.Fatalf("17.2: behind Back: Bytes %d, want %d", n, want)
		}
	}
}

// Example 10: At leaves the tape as it is.
func TestExample10(t *testing.T) {
	x := taped(t, 3)
	x.Push([]byte("first"))
	x.Push([]byte("second"))
	room := x.Bytes()
	for range 3 {
		for i, want := range []string{"second", "first"} {
			if l, e := x.At(i); string(l) != want || e != api.OK {
				t.Fatalf("17.2: At(%d): %q, %d, want %q", i, l, e, want)
			}
		}
	}
	if x.Len() != 2 || x.Bytes() != room || room != len("second")+len(rewind.Diff([]byte("second"), []byte("first"))) {
		t.Fatalf("17.2: behind At: Len %d, Bytes %d, ahead of it %d", x.Len(), x.Bytes(), room)
	}
	for _, want := range []string{"second", "first"} {
		if l, e := x.Back(); string(l) != want || e != api.OK {
			t.Fatalf("17.2: Back: %q, %d, want %q", l, e, want)
		}
	}
}
