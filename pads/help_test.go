package pads_test

import (
	"math/rand"
	"strings"
	"testing"

	"tandem/api"
	"tandem/pads"
)

const (
	first = "script 1\n"
	none  = "|........|........|" // no button of either pad, with the bars around
)

// some picks one of a list.
func some[T any](r *rand.Rand, l ...T) T { return l[r.Intn(len(l))] }

// anyPads is pads of any kind.
func anyPads(r *rand.Rand) api.Pads {
	b := func() uint8 { return uint8(r.Intn(256)) }
	return api.Pads{Strobe: r.Intn(2) == 0, Held: [2]uint8{b(), b()}, Shift: [2]uint8{b(), b()}}
}

// anyTurn is a turn, often one of few.
func anyTurn(r *rand.Rand) api.Turn {
	if r.Intn(2) == 0 {
		return api.Turn{Budget: uint32(r.Intn(2)), One: uint8(r.Intn(2))}
	}
	return api.Turn{
		Budget: some(r, r.Uint32(), r.Uint32()>>r.Intn(32), 0, 1, 9, 10, 1<<32-1),
		One:    uint8(r.Intn(256)), Two: uint8(r.Intn(256)), Flush: r.Intn(2) == 0, Reset: r.Intn(2) == 0,
	}
}

// anyTurns is n turns, in runs.
func anyTurns(r *rand.Rand, n int) []api.Turn {
	var l []api.Turn
	for len(l) < n {
		t := anyTurn(r)
		for range some(r, 1, 1, 2, 3, 9, 10, 99, 100, 1000) {
			l = append(l, t)
		}
	}
	return l[:n:n]
}

// differing is n turns, no two equal, whose budgets have ten digits.
func differing(n int) []api.Turn {
	l := make([]api.Turn, n)
	for i := range l {
		l[i].Budget = 4000000000 + uint32(i)
	}
	return l
}

// filled is a text, made that long by a remark behind it.
func filled(text string, length int) string {
	text += "\n#"
	return text + strings.Repeat("a", length-len(text))
}

// sameTurns holds two lists against each other.
func sameTurns(t *testing.T, what string, got, want []api.Turn) {
	t.Helper()
	if len(got) != len(want) {
		t.Fatalf("%s: %d turns, want %d", what, len(got), len(want))
	}
	for i := range got {
		if got[i] != want[i] {
			t.Fatalf("%s: turn %d is %+v, want %+v", what, i, got[i], want[i])
		}
	}
}

// parses holds what a text is read as against the turns that it has.
func parses(t *testing.T, what, text string, want ...api.Turn) {
	t.Helper()
	got, e, line := pads.Parse(text)
	if e != api.OK || line != 0 {
		t.Errorf("%s: Parse(%.80q) answers %d, line %d", what, text, e, line)
		return
	}
	sameTurns(t, what, got, want)
}

// refused holds what Parse answers to a text against an error and its line.
func refused(t *testing.T, what, text string, e api.Errno, line int) {
	t.Helper()
	turns, gotE, gotLine := pads.Parse(text)
	if turns != nil || gotE != e || gotLine != line {
		t.Errorf("%s: Parse(%.80q) answers %d turns, %d, line %d, want none, %d, line %d", what, text, len(turns), gotE, gotLine, e, line)
	}
}

// handed is what Each hands out.
type handed struct {
	line int
	turn api.Turn
}

// gone is what Each hands out of a text to one who asks for at most so many; below 0: all.
func gone(text string, most int) []handed {
	var l []handed
	if most == 0 {
		return l
	}
	for line, turn := range pads.Each(text) {
		l = append(l, handed{line, turn})
		if len(l) == most {
			break
		}
	}
	return l
}

// sameHanded holds two lists against each other.
func sameHanded(t *testing.T, what string, got, want []handed) {
	t.Helper()
	if len(got) != len(want) {
		t.Fatalf("%s: %d turns are handed out, want %d", what, len(got), len(want))
	}
	for i := range got {
		if got[i] != want[i] {
			t.Fatalf("%s: handed out as number %d is %+v, want %+v", what, i, got[i], want[i])
		}
	}
}
