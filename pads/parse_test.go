package pads_test

import (
	"fmt"
	"math/rand"
	"strings"
	"testing"

	"tandem/api"
	"tandem/pads"
)

func TestParseHead(t *testing.T) {
	for _, text := range []string{
		"\n", "\nscript 1", "script", "script ", "script 1 ", "script 1\x00", "script 1\r", "script 10", "script 2", "Script 1", "SCRIPT 1", "script  1", "script\t1",
		"script 1#", "#", "# a\nscript 1", "\ufeffscript 1", "\xffscript 1", "script 1\xff", "script 1|0|5" + none, "|0|5" + none, "\r\nscript 1\n",
	} {
		refused(t, "P9.6", text, api.ErrHead, 1)
		refused(t, "P9.6", text+"\nwrong", api.ErrHead, 1)
	}
	refused(t, "P9.6: the first line once more", "script 1\nscript 1", api.ErrRecord, 2)
}

func TestParseLines(t *testing.T) {
	one := api.Turn{Budget: 1}
	for _, text := range []string{
		"script 1\n|0|1" + none, "script 1\n|0|1" + none + "\n", "script 1\n|0|1" + none + "\n\n\n", "script 1\n\n\n|0|1" + none,
		"script 1\n#\n|0|1" + none, "script 1\n#|9|x|\n|0|1" + none + "\n#", "script 1\n#\r\n|0|1" + none, "script 1\n##\xff\xfe\x00\xc0\n|0|1" + none, "script 1\n# \u2028 \u0085 \v\f\n|0|1" + none,
	} {
		parses(t, "P9.6", text, one)
	}
	for _, text := range []string{"script 1\n", "script 1\n\n\n\n", "script 1\n#", "script 1\n#\n#\xff\n\n"} {
		parses(t, "P9.6: no records", text)
	}
	for _, line := range []string{" ", "\r", "\t", " #", "\x00", "x", "\xff", "\u2028", "\v"} {
		refused(t, "P9.6", "script 1\n"+line, api.ErrRecord, 2)
		refused(t, "P9.6", "script 1\n\n# a\n|0|1"+none+"\n"+line+"\n|0|1"+none, api.ErrRecord, 5)
	}
	refused(t, "P9.6: a carriage return behind a record", "script 1\n|0|1"+none+"\r\n", api.ErrRepeat, 2)
	refused(t, "P9.6: and in an empty line", "script 1\n|0|1"+none+"\n\r\n", api.ErrRecord, 3)
}

func TestParseRecord(t *testing.T) {
	for c := range 4 {
		parses(t, "P9.6: C", fmt.Sprintf("script 1\n|%d|7%s", c, none), api.Turn{Budget: 7, Reset: c&1 != 0, Flush: c&2 != 0})
	}
	for _, c := range []string{"", "4", "9", "00", "01", "10", "-1", "+1", " 0", "0 ", "x", "R", "\x00", "\x01", "\xff", "/", ":", "٠"} {
		refused(t, "P9.6: C", "script 1\n|"+c+"|7"+none, api.ErrRecord, 2)
	}
	for _, line := range []string{
		"|", "||", "|||", "||||", "|||||", "||||||", "|||||||||", "|0", "|0|", "|0|5", "|0|5|", "|0|5|........", "|0|5|........|........",
		"0|5" + none, "|5" + none, "|0|5|........" + none, "|0|5" + none + "|", "|0|5" + none + " x2|", "|0|5" + none + "||||",
		"x|0|5" + none, " |0|5" + none, "\r|0|5" + none, "||0|5" + none,
	} {
		refused(t, "P9.6", "script 1\n"+line, api.ErrRecord, 2)
	}
	refused(t, "P9.6: nothing but bars", first+strings.Repeat("|", api.MaxScript-len(first)), api.ErrRecord, 2)
}

func TestParseBudget(t *testing.T) {
	for _, n := range []uint32{0, 1, 9, 10, 99, 100, 29780, 999999999, 1000000000, 1<<31 - 1, 1 << 31, 4294967294, 4294967295} {
		parses(t, "P9.6: N", fmt.Sprintf("script 1\n|0|%d%s", n, none), api.Turn{Budget: n})
	}
	for _, n := range []string{
		"", "00", "01", "05", "0000000000", "0000000001", "00000000001", "04294967295", "4294967296", "4294967297", "5000000000", "9999999999", "10000000000", "42949672950",
		"18446744073709551615", "18446744073709551616", "18446744073709551617", strings.Repeat("9", 1000),
		"-1", "-0", "+1", " 1", "1 ", "1_0", "0x1", "1e3", "1.0", "1,0", "x", "1x", "x1", "\xff", "1\x00", "1\r", "٣", "/", ":",
	} {
		refused(t, "P9.6: N", "script 1\n|0|"+n+none, api.ErrBudget, 2)
	}
}

func TestParsePads(t *testing.T) {
	for b := range 256 {
		pad := []byte("RLDUTSBA")
		for i := range pad {
			if b>>(7-i)&1 == 0 {
				pad[i] = '.'
			}
		}
		parses(t, "P9.6: the first pad", "script 1\n|0|1|"+string(pad)+"|........|", api.Turn{Budget: 1, One: uint8(b)})
		parses(t, "P9.6: the second pad", "script 1\n|0|1|........|"+string(pad)+"|", api.Turn{Budget: 1, Two: uint8(b)})
	}
	parses(t, "P9.6: both pads", "script 1\n|0|1|RLDU....|...U.S.A|", api.Turn{Budget: 1, One: 0xf0, Two: 0x15})
}

// TestParsePadBytes: every byte at every place of either pad.
func TestParsePadBytes(t *testing.T) {
	for place := range 8 {
		for b := range 256 {
			if b == '\n' || b == '|' {
				continue
			}
			pad := []byte("........")
			pad[place] = byte(b)
			for _, line := range []string{"|0|1|" + string(pad) + "|........|", "|0|1|........|" + string(pad) + "|"} {
				if b == '.' || byte(b) == "RLDUTSBA"[place] {
					if turns, e, _ := pads.Parse(first + line); e != api.OK || len(turns) != 1 {
						t.Errorf("P9.6: %q is refused: %d", line, e)
					}
				} else {
					refused(t, "P9.6: a pad", first+line, api.ErrPad, 2)
				}
			}
		}
	}
}

func TestParsePadWrong(t *testing.T) {
	for _, pad := range []string{
		"", ".", ".......", ".........", "RLDUTSB", "RLDUTSBAA", "RLDUTSBA.", " RLDUTSBA", "ABSTUDLR", "rldutsba", "........ ", "RLDUTSB\xff", "......é", "\x00\x00\x00\x00\x00\x00\x00\x00", strings.Repeat(".", 256),
	} {
		refused(t, "P9.6: the first pad", "script 1\n|0|1|"+pad+"|........|", api.ErrPad, 2)
		refused(t, "P9.6: the second pad", "script 1\n|0|1|........|"+pad+"|", api.ErrPad, 2)
	}
}

func TestParseRepeat(t *testing.T) {
	for _, n := range []int{2, 3, 9, 10, 99, 100, 999, 1000, 4095, 4096} {
		want := make([]api.Turn, n)
		for i := range want {
			want[i] = api.Turn{Budget: 3, Two: 1}
		}
		parses(t, "P9.6: a repeat", fmt.Sprintf("script 1\n|0|3|........|.......A| x%d", n), want...)
	}
	for _, repeat := range []string{
		" ", "x", " x", "x2", "  x2", " x 2", " X2", " x2 ", " x2\r", "\tx2", " x0", " x1", " x00", " x01", " x02", " x0002", " x4097", " x5000", " x9999", " x10000", " x40960",
		" x4294967298", " x18446744073709551618", " x-2", " x+2", " x2x2", " x2 x2", " xx2", " x2.0", " x1_0", " x\xff", " x2\x00", "2", " 2", " #", "#", " x" + strings.Repeat("2", 500),
	} {
		refused(t, "P9.6: a repeat", "script 1\n|0|3"+none+repeat, api.ErrRepeat, 2)
		refused(t, "P9.6: a repeat", "script 1\n|0|3"+none+repeat+"\n|0|3"+none, api.ErrRepeat, 2)
	}
}

func TestParseMany(t *testing.T) {
	line := "|0|1" + none
	full := first + line + " x4096\n"
	for _, c := range []struct {
		text string
		line int
	}{
		{full + line, 3}, {full + line + " x4096", 3}, {full + "# a\n\n" + line, 5}, {full + "\n" + line + "\nwrong", 4},
		{first + line + " x4095\n" + line + " x2", 3}, {first + line + "\n" + line + " x4096", 3}, {first + line + " x4095\n" + line + "\n" + line, 4},
		{first + line + " x2048\n" + line + " x2049", 3}, {first + line + " x2048\n|1|2" + none + " x2048\n" + line + "\n" + line, 4},
	} {
		refused(t, "P9.6: too many turns", c.text, api.ErrMany, c.line)
	}
	for _, text := range []string{
		full, full + "#\n\n", first + line + " x4095\n" + line, first + line + "\n" + line + " x4095", first + line + " x2048\n" + line + " x2048",
	} {
		if turns, e, n := pads.Parse(text); e != api.OK || n != 0 || len(turns) != 4096 {
			t.Errorf("P9.6: Parse(%.80q) answers %d turns, %d, line %d, want 4096", text, len(turns), e, n)
		}
	}
	// One line for each turn can't be 4096 of them in so short a text; what fits is taken.
	count := (api.MaxScript - len(first)) / (len(line) + 1)
	if turns, e, _ := pads.Parse(first + strings.Repeat(line+"\n", count)); e != api.OK || len(turns) != count {
		t.Errorf("P9.6: a line for each turn: %d turns, %d, want %d", len(turns), e, count)
	}
}

func TestParseLong(t *testing.T) {
	line := "|0|1" + none
	parses(t, "P9.6: 65536 bytes", filled(first+line, 65536), api.Turn{Budget: 1})
	parses(t, "P9.6: 65535 bytes", filled(first+line, 65535), api.Turn{Budget: 1})
	parses(t, "P9.6: 65536 bytes of lines", "script 1"+strings.Repeat("\n", 65528))
	refused(t, "P9.6: 65537 bytes", filled(first+line, 65537), api.ErrLong, 0)
	refused(t, "P9.6: 65537 bytes of lines", "script 1"+strings.Repeat("\n", 65529), api.ErrLong, 0)
	refused(t, "P9.6: a long text without its first line", strings.Repeat("x", 65537), api.ErrLong, 0)
	refused(t, "P9.6: a long text with a wrong record", filled("script 1\nwrong", 65537), api.ErrLong, 0)
	refused(t, "P9.6: the longest text without its first line", strings.Repeat("x", 65536), api.ErrHead, 1)
	refused(t, "P9.6: a very long text", strings.Repeat("\n", 20<<20), api.ErrLong, 0)
	refused(t, "P9.6: a fault in the last of many lines", "script 1"+strings.Repeat("\n", 65527)+"x", api.ErrRecord, 65528)
}

// TestParseFirst: of two faults the one that comes first, in one line and in two.
func TestParseFirst(t *testing.T) {
	piece := []struct{ good, bad string }{{"|0", "|9"}, {"|5", "|05"}, {"|........", "|x......."}, {"|........", "|.......x"}, {"| x2", "| x1"}}
	errs := []api.Errno{api.ErrRecord, api.ErrBudget, api.ErrPad, api.ErrPad, api.ErrRepeat}
	for bad := range 32 {
		line, want := "", api.OK
		for i := len(piece) - 1; i >= 0; i-- {
			text := piece[i].good
			if bad>>i&1 == 1 {
				text, want = piece[i].bad, errs[i]
			}
			line = text + line
		}
		if want == api.OK {
			parses(t, "P9.6", first+line, api.Turn{Budget: 5}, api.Turn{Budget: 5})
			continue
		}
		refused(t, "P9.6: the first fault of a line", first+line, want, 2)
		refused(t, "P9.6: the first fault of a line, ahead of ErrMany", first+"|0|5"+none+" x4096\n"+line, want, 3)
		refused(t, "P9.6: a wrong piece and one piece too many", first+line+"|", api.ErrRecord, 2)
		for _, other := range []string{"wrong", "|0|x" + none, "|0|5|x|........|", "|0|5" + none + " x1", "|0|5" + none + " x4096"} {
			refused(t, "P9.6: the first wrong line", first+"|0|5"+none+"\n"+line+"\n"+other, want, 3)
		}
		refused(t, "P9.6: ErrMany ahead of a wrong line", first+"|0|5"+none+" x4096\n|0|5"+none+"\n"+line, api.ErrMany, 3)
		refused(t, "P9.6: ErrHead ahead of a wrong line", "script\n"+line, api.ErrHead, 1)
	}
}

// anyText is a script with something wrong in it as often as not.
func anyText(r *rand.Rand) string {
	var lines []string
	if r.Intn(40) > 0 {
		lines = append(lines, "script 1")
	}
	for range r.Intn(12) {
		switch r.Intn(8) {
		case 0:
			lines = append(lines, some(r, "", "#", "# a | b", "#\xff", "#\r"))
		default:
			lines = append(lines, toldLine(anyTurn(r), some(r, 1, 1, 1, 2, 3, 4096, 4095, 2000, 500)))
		}
	}
	text := []byte(strings.Join(lines, "\n") + some(r, "", "\n", "\n\n"))
	for range some(r, 0, 0, 1, 2) {
		if len(text) == 0 {
			break
		}
		at := r.Intn(len(text))
		switch b := some(r, []byte("|0123456789.RLDUTSBA x#\n\r\x00\xff")...); r.Intn(3) {
		case 0:
			text[at] = b
		case 1:
			text = append(text[:at], text[at+1:]...)
		case 2:
			text = append(text[:at], append([]byte{b}, text[at:]...)...)
		}
	}
	return string(text)
}

// TestParseTold holds any texts against the second form.
func TestParseTold(t *testing.T) {
	r := rand.New(rand.NewSource(961))
	seen := map[api.Errno]int{}
	for range 10000 {
		text := anyText(r)
		out, e, line := toldScript(text)
		seen[e]++
		sameHanded(t, fmt.Sprintf("P9.10: Each of %q", text), gone(text, -1), out)
		if e != api.OK {
			refused(t, "P9.6", text, e, line)
			continue
		}
		want := make([]api.Turn, len(out))
		for i := range out {
			want[i] = out[i].turn
		}
		parses(t, "P9.6", text, want...)
	}
	for _, e := range []api.Errno{api.OK, api.ErrHead, api.ErrRecord, api.ErrBudget, api.ErrPad, api.ErrRepeat, api.ErrMany} {
		if seen[e] < 100 {
			t.Errorf("only %d texts with the answer %d", seen[e], e)
		}
	}
}

// TestParseNewMemory: no two answers share memory.
func TestParseNewMemory(t *testing.T) {
	text := "script 1\n|0|1" + none + " x5\n|0|2" + none
	one, _, _ := pads.Parse(text)
	two, _, _ := pads.Parse(text)
	kept := append([]api.Turn(nil), two...)
	all := one[:cap(one)]
	for i := range all {
		all[i] = api.Turn{Budget: 99, One: 99}
	}
	sameTurns(t, "P9.6: what Parse answered beside another answer", two, kept)
	parses(t, "P9.6: once more", text, kept...)
}
