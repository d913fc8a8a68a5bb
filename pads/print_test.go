package pads_test

import (
	"math/rand"
	"strings"
	"testing"

	"tandem/api"
	"tandem/pads"
)

// printed holds what Print answers against a text.
func printed(t *testing.T, what string, turns []api.Turn, want string) {
	t.Helper()
	if got, e := pads.Print(turns); got != want || e != api.OK {
		t.Errorf("%s: Print answers %.200q, %d, want %.200q", what, got, e, want)
	}
}

// notPrinted holds what Print answers against an error.
func notPrinted(t *testing.T, what string, turns []api.Turn, e api.Errno) {
	t.Helper()
	if got, gotE := pads.Print(turns); got != "" || gotE != e {
		t.Errorf("%s: Print answers %.60q, %d, want no text, %d", what, got, gotE, e)
	}
}

func TestPrint(t *testing.T) {
	printed(t, "P9.7: no turns", nil, "script 1\n")
	printed(t, "P9.7: no turns", []api.Turn{}, "script 1\n")
	printed(t, "P9.7: the zero turn", make([]api.Turn, 1), "script 1\n|0|0|........|........|\n")
	printed(t, "P9.7: everything", []api.Turn{{Budget: 1<<32 - 1, One: 255, Two: 255, Flush: true, Reset: true}}, "script 1\n|3|4294967295|RLDUTSBA|RLDUTSBA|\n")
	printed(t, "P9.7: Reset", []api.Turn{{Budget: 10, Reset: true}}, "script 1\n|1|10|........|........|\n")
	printed(t, "P9.7: Flush", []api.Turn{{Budget: 10, Flush: true}}, "script 1\n|2|10|........|........|\n")
	for i, want := range []string{".......A", "......B.", ".....S..", "....T...", "...U....", "..D.....", ".L......", "R......."} {
		printed(t, "P9.7: a button", []api.Turn{{One: 1 << i}}, "script 1\n|0|0|"+want+"|........|\n")
		printed(t, "P9.7: a button", []api.Turn{{Two: 1 << i}}, "script 1\n|0|0|........|"+want+"|\n")
	}
}

func TestPrintRuns(t *testing.T) {
	a, b := api.Turn{Budget: 1}, api.Turn{Budget: 2}
	lineA, lineB := "|0|1"+none, "|0|2"+none
	printed(t, "P9.7: two runs of one", []api.Turn{a, b}, first+lineA+"\n"+lineB+"\n")
	printed(t, "P9.7: a run of two", []api.Turn{a, a}, first+lineA+" x2\n")
	printed(t, "P9.7: equal turns that aren't beside each other", []api.Turn{a, b, a}, first+lineA+"\n"+lineB+"\n"+lineA+"\n")
	printed(t, "P9.7: three runs", []api.Turn{a, a, a, b, b, a, a}, first+lineA+" x3\n"+lineB+" x2\n"+lineA+" x2\n")
	// A turn that differs in one field alone is another.
	for _, other := range []api.Turn{{Budget: 1, One: 4}, {Budget: 1, Two: 4}, {Budget: 1, Flush: true}, {Budget: 1, Reset: true}} {
		printed(t, "P9.7: turns that differ in one field", []api.Turn{a, other, a}, first+lineA+"\n"+toldLine(other, 1)+"\n"+lineA+"\n")
	}
	for _, n := range []int{9, 10, 999, 1000, 4095, 4096} {
		printed(t, "P9.7: a long run", make([]api.Turn, n), first+toldLine(api.Turn{}, n)+"\n")
	}
}

func TestPrintMany(t *testing.T) {
	for _, n := range []int{4097, 5000, 3 << 20} {
		notPrinted(t, "P9.7: equal turns", make([]api.Turn, n), api.ErrMany)
	}
	notPrinted(t, "P9.7: a text that would be too long too", differing(4097), api.ErrMany)
	notPrinted(t, "P9.7: the same turns but one", differing(4096), api.ErrLong)
}

// long is turns whose text has just that many bytes: about 65500.
func long(t *testing.T, size int) []api.Turn {
	t.Helper()
	l := differing(1984)
	// What is left of the size is for two records, of 23 bytes each and the budgets' digits.
	digits := size - len(first) - 33*len(l) - 2*23
	for _, n := range []int{digits - digits/2, digits / 2} {
		budget := uint32(1)
		for range n - 1 {
			budget *= 10
		}
		l = append(l, api.Turn{Budget: budget, One: uint8(len(l))})
	}
	if n := len(toldText(l)); n != size {
		t.Fatalf("the turns' text has %d bytes, want %d", n, size)
	}
	return l
}

func TestPrintLong(t *testing.T) {
	for size := 65530; size <= 65536; size++ {
		l := long(t, size)
		printed(t, "P9.7: a long text", l, toldText(l))
	}
	for size := 65537; size <= 65540; size++ {
		notPrinted(t, "P9.7: a text that is too long", long(t, size), api.ErrLong)
	}
}

// TestPrintTold holds the text of any turns against the second form.
func TestPrintTold(t *testing.T) {
	r := rand.New(rand.NewSource(971))
	for range 3000 {
		l := anyTurns(r, some(r, 0, 1, 2, 3, r.Intn(50), r.Intn(1500)))
		printed(t, "P9.7", l, toldText(l))
	}
}

// TestPrintRead: what Print lays down is read as the same turns.
func TestPrintRead(t *testing.T) {
	r := rand.New(rand.NewSource(981))
	for range 3000 {
		l := anyTurns(r, some(r, 0, 1, 2, 3, r.Intn(50), r.Intn(4097), 4096))
		text, e := pads.Print(l)
		if e == api.ErrLong && len(toldText(l)) > 65536 {
			continue
		}
		if e != api.OK {
			t.Fatalf("P9.8: Print of %d turns answers %d", len(l), e)
		}
		parses(t, "P9.8", text, l...)
	}
	l := long(t, 65536)
	text, _ := pads.Print(l)
	parses(t, "P9.8: 65536 bytes", text, l...)
}

// TestReadPrint: Print of what was read has the same turns, and at most one byte more.
func TestReadPrint(t *testing.T) {
	r := rand.New(rand.NewSource(982))
	done := 0
	for range 20000 {
		text := anyText(r)
		turns, e, _ := pads.Parse(text)
		if e != api.OK {
			continue
		}
		done++
		again, e := pads.Print(turns)
		if e != api.OK || len(again) > len(text)+1 {
			t.Fatalf("P9.8: Print of the turns of %q answers %d bytes, %d", text, len(again), e)
		}
		parses(t, "P9.8", again, turns...)
	}
	if done < 1000 {
		t.Errorf("only %d texts were read", done)
	}
}

// TestReadPrintLong: the turns of a text are refused only if it has just 65536 bytes, and lacks the last line feed.
func TestReadPrintLong(t *testing.T) {
	for _, c := range []struct {
		size int // with the last line feed
		e    api.Errno
	}{{65535, api.OK}, {65536, api.OK}, {65537, api.ErrLong}} {
		l := long(t, c.size)
		text := strings.TrimSuffix(toldText(l), "\n")
		turns, e, _ := pads.Parse(text)
		if e != api.OK {
			t.Fatalf("P9.8: a text of %d bytes is refused: %d", len(text), e)
		}
		sameTurns(t, "P9.8", turns, l)
		again, e := pads.Print(turns)
		if e != c.e || e == api.OK && again != text+"\n" {
			t.Errorf("P9.8: Print of the turns of %d bytes answers %d bytes, %d, want %d", len(text), len(again), e, c.e)
		}
	}
}

func TestTotal(t *testing.T) {
	most := api.Turn{Budget: 1<<32 - 1, One: 255, Two: 255, Flush: true, Reset: true}
	for _, c := range []struct {
		turns []api.Turn
		want  int
	}{
		{nil, 0}, {[]api.Turn{}, 0}, {make([]api.Turn, 5), 0}, {[]api.Turn{{Budget: 7}}, 7}, {[]api.Turn{{Budget: 7}, {}, {Budget: 7}, {Budget: 1}}, 15},
		{[]api.Turn{{One: 255, Two: 255, Flush: true, Reset: true}}, 0}, {[]api.Turn{most}, 4294967295}, {[]api.Turn{most, most, {Budget: 1}}, 8589934591},
		{[]api.Turn{{Budget: 1 << 31}, {Budget: 1 << 31}}, 1 << 32},
	} {
		if got := pads.Total(c.turns); got != c.want {
			t.Errorf("P9.9: Total(%+v) = %d, want %d", c.turns, got, c.want)
		}
	}
	// More turns than a script may have are summed all the same.
	many := make([]api.Turn, 100000)
	for i := range many {
		many[i] = most
	}
	if got := pads.Total(many); got != 429496729500000 {
		t.Errorf("P9.9: Total of 100000 turns is %d", got)
	}
}

// TestTurnsStay: a list that is handed in stays as it is, its spare room too.
func TestTurnsStay(t *testing.T) {
	r := rand.New(rand.NewSource(991))
	room := anyTurns(r, 600)
	kept := append([]api.Turn(nil), room...)
	for _, n := range []int{0, 1, 2, 100, 500} {
		text, _ := pads.Print(room[50 : 50+n])
		pads.Total(room[50 : 50+n])
		sameTurns(t, "P9.7: the list that was printed", room, kept)
		again, _ := pads.Print(kept[50 : 50+n])
		if text != again {
			t.Errorf("P9.7: %d turns as two texts: %q, %q", n, text, again)
		}
	}
}
