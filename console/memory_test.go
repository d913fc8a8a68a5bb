package console_test

import (
	"slices"
	"strings"
	"testing"

	"tandem/console"
)

// P2: what is handed in is not changed, what changes later does not matter, and calls hang on nothing but their arguments.
func TestHandedIn(t *testing.T) {
	image := built(t, busy)
	kept := slices.Clone(image)
	const commands = "run 3000\nsave 1\nmark\nwarm $c000\nengine step\npower\nload 1\nback\nlog\nevents\nregs\nsum\n"
	first := done(t, "P2", image, commands)
	if !slices.Equal(image, kept) {
		t.Fatal("P2: Play changes the image")
	}
	plays := []string{commands, "regs", commands}
	keptPlays := slices.Clone(plays)
	batch, _ := console.Batch(image, plays, 3)
	if !slices.Equal(image, kept) || !slices.Equal(plays, keptPlays) {
		t.Fatal("P2: Batch changes what it is given")
	}
	told := slices.Clone(batch)
	clear(image)
	clear(plays)
	if !slices.Equal(batch, told) || batch[0] != first || batch[2] != first {
		t.Error("P2: an answer hangs on what was handed in")
	}
	again, _ := console.Batch(kept, keptPlays, 2)
	clear(again[:cap(again)])
	if batch[1] != newRegs+"\n" {
		t.Error("P2: two answers share memory")
	}
	if done(t, "P2", kept, commands) != first {
		t.Error("P2: a second Play answers otherwise")
	}
}

// P2: spare bytes behind an image are not touched.
func TestSpareRoom(t *testing.T) {
	image := built(t, busy)
	wide := append(slices.Clone(image), []byte(strings.Repeat("\x5a", 1000))...)
	want := done(t, "P2", image, "run 30000\nregs\nlog")
	if got := done(t, "P2", wide[:len(image)], "run 30000\nregs\nlog"); got != want {
		t.Error("P2: room behind the image shows")
	}
	if string(wide[len(image):]) != strings.Repeat("\x5a", 1000) {
		t.Error("P2: room behind the image is written")
	}
}
