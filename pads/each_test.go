package pads_test

import (
	"fmt"
	"iter"
	"math/rand"
	"runtime"
	"strings"
	"testing"

	"tandem/api"
	"tandem/pads"
)

const eachText = "script 1\n# a\n|0|7" + none + " x3\n\n|1|8" + none + "\n|0|9|R.......|.......A| x2\n"

var eachOut = []handed{
	{3, api.Turn{Budget: 7}}, {3, api.Turn{Budget: 7}}, {3, api.Turn{Budget: 7}}, {5, api.Turn{Budget: 8, Reset: true}},
	{6, api.Turn{Budget: 9, One: 0x80, Two: 1}}, {6, api.Turn{Budget: 9, One: 0x80, Two: 1}},
}

func TestEach(t *testing.T) {
	sameHanded(t, "P9.10", gone(eachText, -1), eachOut)
	for _, text := range []string{"script 1", "script 1\n", "script 1\n\n#\n", "script 1\n# |0|7" + none} {
		sameHanded(t, "P9.10: no records", gone(text, -1), nil)
	}
	all := gone("script 1\n|0|7"+none+" x4096", -1)
	if len(all) != 4096 || all[0] != all[4095] || all[0] != (handed{2, api.Turn{Budget: 7}}) {
		t.Errorf("P9.10: 4096 turns of one line: %d are handed out", len(all))
	}
}

// TestEachNothing: texts that are too long or lack the first line.
func TestEachNothing(t *testing.T) {
	for _, text := range []string{
		"", "x", "script 1\r\n|0|7" + none, " " + eachText, "\n" + eachText, "script 2\n|0|7" + none, "|0|7" + none, "#\n" + eachText,
		filled(eachText, 65537), eachText + strings.Repeat("\n", 65536), strings.Repeat("x", 65537),
	} {
		sameHanded(t, fmt.Sprintf("P9.10: Each of %.40q", text), gone(text, -1), nil)
	}
	sameHanded(t, "P9.10: 65536 bytes", gone(filled(eachText, 65536), -1), eachOut)
}

// TestEachWrong: it ends ahead of the first wrong line, whatever stands behind.
func TestEachWrong(t *testing.T) {
	for _, line := range []string{
		"wrong", " ", "\r", "|4|7" + none, "|0|07" + none, "|0|4294967296" + none, "|0|7|x.......|........|", "|0|7|........|.......|", "|0|7" + none + " x1", "|0|7" + none + " x4097", "|0|7" + none + "\r",
		"|0|7" + none + " x4091", "|0|7" + none + " x4096",
	} {
		for _, behind := range []string{"", "\n", "\n|0|1" + none, "\n|0|1" + none + " x2\n"} {
			sameHanded(t, fmt.Sprintf("P9.10: ahead of %q", line), gone(eachText+line+behind, -1), eachOut)
			sameHanded(t, fmt.Sprintf("P9.10: ahead of a wrong line with %q behind", line), gone(eachText+"wrong\n"+line+behind, -1), eachOut)
		}
	}
	if n := len(gone(eachText+"|0|7"+none+" x4090", -1)); n != 4096 {
		t.Errorf("P9.10: of 4096 turns %d are handed out", n)
	}
}

func TestEachStops(t *testing.T) {
	for most := 1; most <= len(eachOut)+1; most++ {
		sameHanded(t, "P9.10: stopped", gone(eachText, most), eachOut[:min(most, len(eachOut))])
		sameHanded(t, "P9.10: stopped ahead of a wrong line", gone(eachText+"wrong", most), eachOut[:min(most, len(eachOut))])
	}
	// Whoever has had enough isn't asked again.
	for most := 1; most <= len(eachOut); most++ {
		asked := 0
		pads.Each(eachText)(func(int, api.Turn) bool {
			asked++
			return asked < most
		})
		if asked != most {
			t.Errorf("P9.10: one who has had enough behind %d is asked %d times", most, asked)
		}
	}
	pads.Each(eachText)(nil)
}

// TestEachAgain: one iterator, gone through any number of times, to its end or not.
func TestEachAgain(t *testing.T) {
	seq := pads.Each(eachText)
	through := func(most int) []handed {
		var l []handed
		for line, turn := range seq {
			l = append(l, handed{line, turn})
			if len(l) == most {
				break
			}
		}
		return l
	}
	for _, most := range []int{-1, 2, -1, 1, 5, 6, -1} {
		want := eachOut
		if most > 0 {
			want = eachOut[:most]
		}
		sameHanded(t, "P9.10: gone through again", through(most), want)
	}
	full := pads.Each("script 1\n|0|7" + none + " x4096")
	for range 3 {
		n := 0
		for range full {
			n++
		}
		if n != 4096 {
			t.Errorf("P9.10: 4096 turns, gone through again: %d", n)
		}
	}
}

// TestEachWithin: one going through inside another, and two that take turns, of one iterator.
func TestEachWithin(t *testing.T) {
	seq := pads.Each(eachText)
	outer := 0
	for line, turn := range seq {
		if (handed{line, turn}) != eachOut[outer] {
			t.Fatalf("P9.10: the outer one: number %d is %d, %+v", outer, line, turn)
		}
		inner := 0
		for line, turn := range seq {
			if (handed{line, turn}) != eachOut[inner] {
				t.Fatalf("P9.10: the inner one: number %d is %d, %+v", inner, line, turn)
			}
			if inner++; inner > outer {
				break
			}
		}
		outer++
	}
	if outer != len(eachOut) {
		t.Errorf("P9.10: the outer one ends behind %d turns", outer)
	}
	nextA, stopA := iter.Pull2(seq)
	defer stopA()
	nextB, stopB := iter.Pull2(seq)
	defer stopB()
	for i, want := range eachOut {
		for _, next := range []func() (int, api.Turn, bool){nextA, nextB} {
			if line, turn, ok := next(); !ok || (handed{line, turn}) != want {
				t.Errorf("P9.10: two that take turns: number %d is %d, %+v, %t", i, line, turn, ok)
			}
		}
	}
}

// TestEachParse: Each hands out what Parse answers, and what stands ahead of Parse's fault.
func TestEachParse(t *testing.T) {
	r := rand.New(rand.NewSource(1001))
	for range 3000 {
		text := anyText(r)
		turns, e, fault := pads.Parse(text)
		l := gone(text, -1)
		if e == api.OK {
			got := make([]api.Turn, len(l))
			for i := range l {
				got[i] = l[i].turn
			}
			sameTurns(t, "P9.10: Each and Parse", got, turns)
			continue
		}
		if len(l) > 0 && l[len(l)-1].line >= fault {
			t.Fatalf("P9.10: Each of %q hands out line %d, the fault is in line %d", text, l[len(l)-1].line, fault)
		}
		lines := strings.Split(text, "\n")
		ahead, e, _ := pads.Parse(strings.Join(lines[:fault-1], "\n"))
		if fault > 1 && (e != api.OK || len(ahead) != len(l)) {
			t.Fatalf("P9.10: Each of %q hands out %d turns, ahead of line %d stand %d, %d", text, len(l), fault, len(ahead), e)
		}
	}
}

// memoryFor is how many bytes of new memory a piece of work takes.
func memoryFor(work func()) uint64 {
	var ahead, behind runtime.MemStats
	runtime.ReadMemStats(&ahead)
	work()
	runtime.ReadMemStats(&behind)
	return behind.TotalAlloc - ahead.TotalAlloc
}

// TestEachLazy: neither the making of the iterator nor the first turn takes memory for what stands behind, so that it hasn't been read.
func TestEachLazy(t *testing.T) {
	line := "|0|7|........|........|\n"
	long := first + strings.Repeat(line, (api.MaxScript-len(first))/len(line))
	for _, text := range []string{long, "script 1\n|0|7" + none + " x4096"} {
		least := uint64(1 << 62)
		for range 20 {
			least = min(least, memoryFor(func() { gone(text, 1) }))
		}
		if least > 4096 {
			t.Errorf("P9.10: the first turn of %.40q takes %d bytes", text, least)
		}
	}
}
