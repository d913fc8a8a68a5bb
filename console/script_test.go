package console_test

import (
	"fmt"
	"strings"
	"testing"

	"tandem/api"
)

// 18.3: a script's turns, played one by one: how many they were, and how long they took.
func TestScript(t *testing.T) {
	for _, engine := range engines {
		answers(t, engine, cartL, engine+"\nscript 1\nscript 1\nregs\nscript 2\nscript 1\n\nregs", engine+"\nplayed 0 0\n"+newRegs+"\nplayed 0 0\n"+newRegs+"\n")
		answers(t, engine, cartL, engine+"\n  script   $4 \nscript 1\n|0|0|........|........| x3\n# run 5\n|0|1|........|........|\nregs", engine+"\nplayed 4 7\n"+afterBoot+"\n")
		answers(t, engine, cartL, engine+"\nscript 3\nscript 1\n|0|7|........|........|\n|1|1|........|........|\nregs\nevents",
			engine+"\nplayed 2 14\npc=C000 a=00 x=00 y=00 s=FA p=24 take=0 jam=0 cycle=14\nevents 2\nRESET 0000 00 FFFC @0\nRESET 0000 00 FFFC @7\n")
		// A script is as its turns are, one by one.
		a := done(t, engine, cartL, engine+"\nscript 2\nscript 1\n|0|3|........|........| x20\nregs")
		b := done(t, engine, cartL, engine+"\n"+strings.Repeat("run 3\n", 20)+"regs")
		if last(a) != last(b) {
			t.Errorf("18.3: %s: a script leads to %s, its turns to %s", engine, last(a), last(b))
		}
	}
	// 4096 lines of a script, the last one without a line feed behind it.
	long := "script 4096\nscript 1\n" + strings.Repeat("\n", 4094) + "|0|7|........|........|"
	answers(t, "4096 lines", cartL, long, "played 1 7\n")
	answers(t, "4096 lines", cartL, long+"\nregs", "played 1 7\n"+afterBoot+"\n")
	refuses(t, "4097 lines", cartL, strings.Replace(long, "4096", "4097", 1)+"\n\n", "", api.ErrNumber, 1)
	answers(t, "4096 turns", cartL, "script 2\nscript 1\n|0|1|........|........| x4096\n", "played 4096 "+played(t, 4096)+"\n")
}

// played is how long so many turns with budget 1 take.
func played(t *testing.T, n int) string {
	t.Helper()
	text := done(t, "turns", cartL, strings.Repeat("run 1\n", n)+"regs")
	return text[strings.LastIndex(text, "=")+1 : len(text)-1]
}

// 18.3: the lines of a script are no commands, and what stands behind them are.
func TestScriptLines(t *testing.T) {
	answers(t, "lines", cartL, "script 4\nscript 1\n# jump\n\n#regs\nregs\nscript 1\nscript 1\nregs", "played 0 0\n"+newRegs+"\nplayed 0 0\n"+newRegs+"\n")
	refuses(t, "lines", cartL, "script 1\nscript 1\njump", "played 0 0\n", api.ErrWord, 3)
	refuses(t, "lines", cartL, "\nscript 2\nscript 1\n\n# x\n jump", "played 0 0\n", api.ErrWord, 6)
	refuses(t, "lines", cartL, "script 2\nscript 1\n regs", "", api.ErrRecord, 3)
	refuses(t, "lines", cartL, "script 2\nscript 1\n # x", "", api.ErrRecord, 3)
	refuses(t, "lines", cartL, "script 2\nscript 1\r\n\r\n", "", api.ErrHead, 2)
	refuses(t, "lines", cartL, "script 2\nscript 1\n\r\n", "", api.ErrRecord, 3)
}

// 18.3: with fewer lines behind it than it asks for, and with none.
func TestScriptCut(t *testing.T) {
	refuses(t, "cut", cartL, "script\nscript 1\n", "", api.ErrNumber, 1)
	refuses(t, "cut", cartL, "script 1 1\nscript 1\n", "", api.ErrNumber, 1)
	refuses(t, "cut", cartL, "script 1", "", api.ErrNumber, 1)
	refuses(t, "cut", cartL, "script 1\n", "", api.ErrNumber, 1)
	refuses(t, "cut", cartL, "script 2\nscript 1", "", api.ErrNumber, 1)
	refuses(t, "cut", cartL, "script 2\nscript 1\n", "", api.ErrNumber, 1)
	answers(t, "cut", cartL, "script 2\nscript 1\n\n", "played 0 0\n")
	refuses(t, "cut", cartL, "regs\n\nscript 3\nscript 1\n\n", newRegs+"\n", api.ErrNumber, 3)
	refuses(t, "cut", cartL, "script 4096\nscript 1\n|0|7|........|........|\n", "", api.ErrNumber, 1)
	refuses(t, "none", cartL, "script 0", "", api.ErrHead, 2)
	refuses(t, "none", cartL, "script 0\n", "", api.ErrHead, 2)
	refuses(t, "none", cartL, "regs\nscript 0\nscript 1\nregs", newRegs+"\n", api.ErrHead, 3)
}

// 18.3: a text that pads.Parse refuses: its error, and the line of its fault. Nothing of it is played.
func TestScriptFaults(t *testing.T) {
	for _, x := range []struct {
		text string
		e    api.Errno
		line int // within the text
	}{
		{"", api.ErrHead, 1},
		{"script 2", api.ErrHead, 1},
		{" script 1", api.ErrHead, 1},
		{"# x\nscript 1", api.ErrHead, 1},
		{"script 1\nx", api.ErrRecord, 2},
		{"script 1\n\n\n|4|5|........|........|", api.ErrRecord, 4},
		{"script 1\n|0|7|........|........|\n|0|07|........|........|", api.ErrBudget, 3},
		{"script 1\n|0|4294967296|........|........|", api.ErrBudget, 2},
		{"script 1\n|0|7|........|.......|", api.ErrPad, 2},
		{"script 1\n# x\n|0|7|........|........| x1\n|9", api.ErrRepeat, 3},
		{"script 1\n|0|7|........|........| x4096\n\n|0|7|........|........|", api.ErrMany, 4},
	} {
		n := strings.Count(x.text, "\n") + 1
		for _, ahead := range []string{"", "run 1\n", "# x\n\nrun 1\n", "script 2\nscript 1\n|0|1|........|........|\n"} {
			answer := done(t, "ahead", cartL, ahead)
			own := strings.Count(ahead, "\n") + 1
			for _, behind := range []string{"", "\n", "\nregs\n", "\n|0|5|........|........|\n"} {
				refuses(t, "18.3: a script's fault", cartL, fmt.Sprintf("%sscript %d\n%s%s", ahead, n, x.text+"\n", strings.TrimPrefix(behind, "\n")), answer, x.e, own+x.line)
			}
		}
	}
}
