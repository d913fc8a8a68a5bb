package console_test

import (
	"fmt"
	"math/rand"
	"strings"
	"testing"

	"tandem/api"
	"tandem/console"
	"tandem/isa"
)

// Drawn cartridges, and drawn texts of commands.

// some is one of several.
func some[T any](r *rand.Rand, list ...T) T { return list[r.Intn(len(list))] }

// anyCode fills PRG with instructions of which few jam, and which often touch devices, the board, or code.
func anyCode(r *rand.Rand, prg []byte) {
	for i := 0; i+3 <= len(prg); {
		code := byte(r.Intn(256))
		in := isa.Decode(code)
		if in.Kind == api.KindJam && r.Intn(200) > 0 || in.Kind == api.KindBreak && r.Intn(4) > 0 {
			continue
		}
		prg[i] = code
		operand := some(r, r.Intn(0x200), r.Intn(0x800), 0x2000+r.Intn(8), 0x4014+r.Intn(8), 0x6000+r.Intn(0x2000), 0x8000+r.Intn(0x8000))
		switch in.Kind {
		case api.KindJump, api.KindCall:
			operand = some(r, 0x8000+r.Intn(0x8000), 0x8000+r.Intn(0x8000), r.Intn(0x800), 0x6000+r.Intn(0x2000))
		case api.KindBranch:
			operand = r.Intn(40)
		}
		prg[i+1], prg[i+2] = byte(operand), byte(operand>>8)
		i += in.Len
	}
}

// anyImage is an image of one of the boards.
func anyImage(r *rand.Rand) []byte {
	units := 1 << r.Intn(3)
	board := some(r, 0, 1, 2, 3, 4, 7)
	if board == 7 || board == 4 || board == 0 {
		units = 2
	}
	image := make([]byte, 16+units*16384)
	copy(image, []byte{'N', 'E', 'S', 0x1a, byte(units), 0, byte(board<<4 | r.Intn(4))})
	prg := image[16:]
	anyCode(r, prg)
	for bank := 8192; bank <= len(prg); bank += 8192 {
		for v := bank - 6; v < bank; v += 2 {
			prg[v], prg[v+1] = byte(r.Intn(256)), byte(0x80+r.Intn(128))
		}
	}
	return image
}

// anyLines is a command, with the lines behind it that belong to it; load and back may be refused by what stands ahead of them.
func anyLines(r *rand.Rand) string {
	n := func(below int) string {
		k := r.Intn(below)
		return some(r, fmt.Sprint(k), fmt.Sprintf("$%x", k), fmt.Sprintf("%03d", k), fmt.Sprintf("$%04X", k))
	}
	place := func() string { return n(65536) }
	switch r.Intn(26) {
	case 0, 1, 2, 3, 4, 5:
		return "run " + n(1<<r.Intn(14))
	case 6:
		return "pads " + n(256) + " " + n(256)
	case 7:
		return some(r, "reset", "reset", "reset", "power")
	case 8, 9:
		return "regs"
	case 10:
		return fmt.Sprintf("peek %s %d", place(), 1+r.Intn(64))
	case 11, 12:
		return fmt.Sprintf("trace %d", 1+r.Intn(12))
	case 13:
		return fmt.Sprintf("list %s %d", place(), 1+r.Intn(32))
	case 14:
		return some(r, "log", "events")
	case 15:
		return "sum"
	case 16, 17:
		return fmt.Sprintf("save %d", r.Intn(3))
	case 18:
		return fmt.Sprintf("load %d", r.Intn(3))
	case 19, 20:
		return "mark"
	case 21:
		return "back"
	case 22:
		return fmt.Sprintf("script 3\nscript 1\n|%d|%d|R......A|........|\n|0|%d|.L......|...U....| x3", r.Intn(4), r.Intn(400), r.Intn(100))
	case 23:
		return some(r, "", "  ", "# remark", " #")
	case 24:
		return some(r, "log\nevents\nregs\nsum", "regs")
	}
	return some(r, "run 0", "script 1\nscript 1", "trace 1")
}

// anyPolicy is a line that only the translator does something at.
func anyPolicy(r *rand.Rand) string {
	return some(r, "flush", "stats", "stats", fmt.Sprintf("warm %d %d", 0x8000+r.Intn(0x8000), r.Intn(65536)),
		"engine step", "engine interp", fmt.Sprintf("engine dbt %d %d", 1+r.Intn(100), 1+r.Intn(64)), fmt.Sprintf("engine dbt %d %d", 1+r.Intn(3), 1+r.Intn(4)))
}

// anyFault is a line that is refused most often.
func anyFault(r *rand.Rand) string {
	return some(r, "jump", "run", "load 9", "back", "regs 1", "engine", "engine dbt 0 1", "engine dbt 1 0", "peek 0 65", "script 100", "script 2\nscript 1\n|0|07|........|........|", "save 10", "run 7\t", "warm")
}

// anyText is a text of so many commands; the first slots are mostly full, and the tape has something.
func anyText(r *rand.Rand, n int, policy bool) string {
	l := []string{"save 0", "save 1"}
	for range 3 {
		l = append(l, "mark")
	}
	for range n {
		switch {
		case policy && r.Intn(4) == 0:
			l = append(l, anyPolicy(r))
		case r.Intn(150) == 0:
			l = append(l, anyFault(r))
		default:
			l = append(l, anyLines(r))
		}
	}
	return strings.Join(append(l, "log", "events", "regs", "sum", "save 9"), "\n")
}

// P18.1, 18.3: drawn texts on drawn cartridges are answered as the chapter's second form tells them.
func TestDrawnTexts(t *testing.T) {
	r := rand.New(rand.NewSource(18))
	faults := 0
	for i := range 200 {
		image, text := anyImage(r), anyText(r, 10+r.Intn(40), true)
		want, e, line := toldPlay(image, text)
		refuses(t, fmt.Sprintf("drawn text %d", i), image, text, want, e, line)
		if e != api.OK {
			faults++
		}
	}
	if faults < 20 || faults > 180 {
		t.Errorf("the test asks too little: %d of 200 texts are refused", faults)
	}
}

// P18.4: of commands without engine, stats, flush, warm the answers are the same on all engines.
func TestOneTextOnAllEngines(t *testing.T) {
	r := rand.New(rand.NewSource(184))
	for i := range 80 {
		image, text := anyImage(r), anyText(r, 10+r.Intn(60), false)
		want, e, line := console.Play(image, text)
		if e != api.OK {
			line++
		}
		for _, engine := range append(engines, fmt.Sprintf("engine dbt %d %d", 1+r.Intn(65536), 1+r.Intn(64))) {
			refuses(t, fmt.Sprintf("P18.4: text %d", i), image, engine+"\n"+text, engine+"\n"+want, e, line)
		}
	}
}

// P18.4: load of what was saved, and back to what was marked, make sum and regs what they were, whatever is done between.
func TestDrawnWaysBack(t *testing.T) {
	r := rand.New(rand.NewSource(185))
	ways := 0
	for i := range 100 {
		image := anyImage(r)
		for _, way := range []struct{ there, back string }{{"save 8", "load 8"}, {"mark", "back"}} {
			ahead, between := anyText(r, 12, false), strings.NewReplacer("mark", "#", "back", "#").Replace(anyText(r, 12, true))
			head := ahead + "\n" + way.there + "\nregs\nsum\n"
			text, e, _ := console.Play(image, head+between+"\n"+way.back+"\nregs\nsum\n")
			if e != api.OK {
				continue
			}
			ways++
			was := done(t, "ahead", image, head)
			l, k := strings.Split(was, "\n"), strings.Split(text, "\n")
			if a, b := l[len(l)-3:], k[len(k)-3:]; a[0] != b[0] || a[1] != b[1] {
				t.Errorf("P18.4: %d: behind %s: %q, were %q", i, way.back, b, a)
			}
		}
	}
	if ways < 50 {
		t.Errorf("the test asks too little: %d ways of 200 lead back", ways)
	}
}
