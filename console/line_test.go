package console_test

import (
	"strconv"
	"strings"
	"testing"

	"tandem/api"
)

// 18.1: where lines end, what parts words, which lines are passed over.
func TestLines(t *testing.T) {
	for _, x := range []struct {
		commands, want string
		e              api.Errno
		line           int
	}{
		{"", "", api.OK, 0},
		{"\n", "", api.OK, 0},
		{" ", "", api.OK, 0},
		{"   \n  \n", "", api.OK, 0},
		{"\n\n \n\n", "", api.OK, 0},
		{"regs", newRegs + "\n", api.OK, 0},
		{"regs\n", newRegs + "\n", api.OK, 0},
		{"regs\n\n", newRegs + "\n", api.OK, 0},
		{"  regs  ", newRegs + "\n", api.OK, 0},
		{"\n\n  regs", newRegs + "\n", api.OK, 0},
		{"  run   7  \nregs", "ran 7\n" + afterBoot + "\n", api.OK, 0},
		{"# regs\n#regs\n  # x\n #\n#\nregs", newRegs + "\n", api.OK, 0},
		{"#\tregs\r", "", api.OK, 0},
		{"regs # not a remark", "", api.ErrNumber, 1},
		{"regs #", "", api.ErrNumber, 1},
		{"x#", "", api.ErrWord, 1},
		{"run #7", "", api.ErrNumber, 1},
		{"regs\t", "", api.ErrWord, 1},
		{"\tregs", "", api.ErrWord, 1},
		{"\t", "", api.ErrWord, 1},
		{"\t# x", "", api.ErrWord, 1},
		{"regs\r\nregs", "", api.ErrWord, 1},
		{"\r\n", "", api.ErrWord, 1},
		{"\r", "", api.ErrWord, 1},
		{"run\t7", "", api.ErrWord, 1},
		{"run 7\r", "", api.ErrNumber, 1},
		{"run 7\t", "", api.ErrNumber, 1},
		{"run \t7", "", api.ErrNumber, 1},
		{"run \v 7", "", api.ErrNumber, 1},
		{"run\u00a07", "", api.ErrWord, 1},
		{"run\u20037", "", api.ErrWord, 1},
		{"run\x007", "", api.ErrWord, 1},
		{"\x00", "", api.ErrWord, 1},
		{"\xff\xfe", "", api.ErrWord, 1},
		{"regs\x0bregs", "", api.ErrWord, 1},
		{"regs\x85", "", api.ErrWord, 1},
		{"Regs", "", api.ErrWord, 1},
		{"REGS", "", api.ErrWord, 1},
		{"reg", "", api.ErrWord, 1},
		{"regss", "", api.ErrWord, 1},
		{"\n# x\n\n jump\nregs", "", api.ErrWord, 4},
		{"regs\n\njump", newRegs + "\n", api.ErrWord, 3},
		{"regs\njump\nregs\n", newRegs + "\n", api.ErrWord, 2},
		{"jump 1 2 3", "", api.ErrWord, 1},
		{"7", "", api.ErrWord, 1},
		{"$", "", api.ErrWord, 1},
		{"step", "", api.ErrWord, 1},
		{"dbt 64 16", "", api.ErrWord, 1},
		{"stats none", "", api.ErrNumber, 1},
	} {
		refuses(t, "18.1", cartL, x.commands, x.want, x.e, x.line)
	}
}

// 18.1: what is a number. engine dbt takes any two, and tells them apart by its own errors.
func TestNumbers(t *testing.T) {
	good := map[string]int{
		"0": 0, "7": 7, "64": 64, "064": 64, "0000000064": 64, "0000000000": 0, "65536": 65536, "65537": 65537, "4294967295": 4294967295,
		"$0": 0, "$7": 7, "$40": 64, "$00000040": 64, "$10000": 65536, "$10001": 65537, "$ffffffff": 4294967295, "$FFFFFFFF": 4294967295,
		"$fFFFFFFf": 4294967295, "$a": 10, "$A": 10, "$1f": 31, "$1F": 31, "$00000000": 0, "9999999": 9999999,
	}
	bad := []string{
		"$", "$$1", "00000000064", "00000000000", "42949672950", "4294967296", "9999999999", "$123456789", "$000000040", "$100000000",
		"$g", "$1g", "0x40", "40h", "1f", "a", "+1", "-1", "-0", "1.0", "1e3", "1_0", "$1_0", "_1", "$-1", "$+1", "٣", "1٣", "1,", "'1'", "%1", "0b1", "0o7", "18446744073709551617", "$$", "1$", "ff",
	}
	for word, n := range good {
		size, limit := strconv.Itoa(n), ""
		switch {
		case n < 1 || n > 65536:
			refuses(t, "18.1: a size", cartL, "engine dbt "+word+" 1", "", api.ErrSize, 1)
		default:
			answers(t, "18.1: a size", cartL, "engine dbt "+word+" 1", "engine dbt "+size+" 1\n")
		}
		limit = size
		if n < 1 || n > 64 {
			refuses(t, "18.1: a limit", cartL, "engine dbt 1 "+word, "", api.ErrLimit, 1)
		} else {
			answers(t, "18.1: a limit", cartL, "engine dbt 1 "+word, "engine dbt 1 "+limit+"\n")
		}
	}
	for _, word := range bad {
		for _, line := range []string{"engine dbt W 1", "engine dbt 1 W", "run W", "peek W 1", "peek 0 W", "pads 0 W", "pads W 0", "trace W", "list W 1", "list 0 W", "save W", "load W", "warm W", "warm 0 W", "warm W 0", "script W"} {
			refuses(t, "18.1: no number", cartL, strings.ReplaceAll(line, "W", word), "", api.ErrNumber, 1)
		}
	}
}

// P18.1: ErrLong goes ahead of everything, and is found by the length alone; MaxPlay bytes are played.
func TestLong(t *testing.T) {
	if api.MaxPlay != 65536 {
		t.Fatal("another bound")
	}
	fill := func(n int) string { return "#" + strings.Repeat("x", n-2) + "\n" }
	answers(t, "P18.1: a remark of MaxPlay bytes", cartL, fill(65536), "")
	answers(t, "P18.1: MaxPlay bytes", cartL, fill(65536-4)+"regs", newRegs+"\n")
	answers(t, "P18.1: MaxPlay line feeds", cartL, strings.Repeat("\n", 65536), "")
	answers(t, "P18.1: MaxPlay blanks", cartL, strings.Repeat(" ", 65536), "")
	refuses(t, "P18.1: a word of MaxPlay bytes", cartL, strings.Repeat("x", 65536), "", api.ErrWord, 1)
	refuses(t, "P18.1: MaxPlay lines", cartL, strings.Repeat("\n", 65535)+"x", "", api.ErrWord, 65536)
	for name, image := range map[string][]byte{"a good image": cartL, "no image": nil, "a long image": make([]byte, api.MaxImage+1)} {
		refuses(t, "P18.1: a byte more, "+name, image, fill(65537), "", api.ErrLong, 0)
		refuses(t, "P18.1: a byte more, "+name, image, "regs\n"+fill(65536-4), "", api.ErrLong, 0)
		refuses(t, "P18.1: many more, "+name, image, strings.Repeat("regs\n", 1<<20), "", api.ErrLong, 0)
	}
	want := strings.Repeat(newRegs+"\n", 13107)
	answers(t, "P18.1: as many lines as go in", cartL, strings.Repeat("regs\n", 13107)+" ", want)
}

// P18.1: images that cart.Parse or mapper.New refuses.
func TestImages(t *testing.T) {
	change := func(at int, v byte) []byte {
		b := append([]byte{}, cartL...)
		b[at] = v
		return b
	}
	nes2 := change(7, 8)
	nes2[8] = 0x10 // submapper 1, which mapper 0 has not
	for name, image := range map[string][]byte{
		"nil": nil, "none": {}, "short": cartL[:16383], "a byte less": cartL[:len(cartL)-1], "magic": change(0, 'M'), "reserved": change(7, 3),
		"no PRG": change(4, 0), "board 5": change(6, 0x50), "board 6": change(6, 0x60), "board 255": change(7, 0xf0), "submapper": nes2,
		"long":            append(append([]byte{}, cartL...), make([]byte, api.MaxImage)...),
		"PRG of 65 units": append(append([]byte{'N', 'E', 'S', 0x1a, 65}, make([]byte, 11)...), make([]byte, 65*16384)...),
		"odd PRG":         append([]byte{'N', 'E', 'S', 0x1a, 0x35, 0, 0, 8, 0, 0x0f, 0, 0, 0, 0, 0, 0}, make([]byte, 24576)...),
	} {
		for _, commands := range []string{"", "regs", "jump", "\n", "run 5\nregs\n"} {
			refuses(t, "P18.1: image: "+name, image, commands, "", api.ErrImage, 0)
		}
	}
	for _, board := range []byte{0, 1, 2, 3, 4, 7} {
		answers(t, "P18.1: a board", change(6, board<<4), "regs", newRegs+"\n")
	}
	answers(t, "P18.1: bytes behind CHR", append(append([]byte{}, cartL...), 1, 2, 3), "regs", newRegs+"\n")
}
