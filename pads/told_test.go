package pads_test

import (
	"fmt"
	"regexp"
	"strconv"
	"strings"

	"tandem/api"
)

// The chapter's words in a second form: a port that counts its reads, patterns for the pieces of a record.

// toldPort is one pad: what was held when the register last took it over, and how many bits have gone out since.
type toldPort struct {
	strobe    bool
	held      uint8
	taken     uint8
	readSince int
}

func (x *toldPort) set(held uint8) {
	x.held = held
	if x.strobe {
		x.taken, x.readSince = held, 0
	}
}

func (x *toldPort) write(v uint8) {
	if x.strobe || v%2 == 1 {
		x.taken, x.readSince = x.held, 0
	}
	x.strobe = v%2 == 1
}

func (x *toldPort) read() uint8 {
	if x.strobe {
		return x.held % 2
	}
	n := x.readSince
	x.readSince++
	if n >= 8 {
		return 1
	}
	return x.taken >> n % 2
}

// shift is the register as it must be by then.
func (x *toldPort) shift() uint8 {
	gone := min(x.readSince, 8)
	return uint8(0xff<<(8-gone) | int(x.taken)>>gone)
}

var (
	toldC      = regexp.MustCompile(`^[0123]$`)
	toldN      = regexp.MustCompile(`^(0|[1-9][0-9]{0,9})$`)
	toldPad    = regexp.MustCompile(`^[R.][L.][D.][U.][T.][S.][B.][A.]$`)
	toldRepeat = regexp.MustCompile(`^ x([1-9][0-9]{0,3})$`)
)

// toldRecord is what a record says: the turn, how many times, what is wrong.
func toldRecord(line string) (api.Turn, int, api.Errno) {
	piece := strings.Split(line, "|")
	if len(piece) != 6 || piece[0] != "" || !toldC.MatchString(piece[1]) {
		return api.Turn{}, 0, api.ErrRecord
	}
	budget, _ := strconv.ParseInt(piece[2], 10, 64)
	if !toldN.MatchString(piece[2]) || budget > 4294967295 {
		return api.Turn{}, 0, api.ErrBudget
	}
	if !toldPad.MatchString(piece[3]) || !toldPad.MatchString(piece[4]) {
		return api.Turn{}, 0, api.ErrPad
	}
	times := 1
	if piece[5] != "" {
		m := toldRepeat.FindStringSubmatch(piece[5])
		if m == nil {
			return api.Turn{}, 0, api.ErrRepeat
		}
		times, _ = strconv.Atoi(m[1])
		if times < 2 || times > 4096 {
			return api.Turn{}, 0, api.ErrRepeat
		}
	}
	return api.Turn{
		Budget: uint32(budget), One: toldPressed(piece[3]), Two: toldPressed(piece[4]),
		Flush: strings.Contains("23", piece[1]), Reset: strings.Contains("13", piece[1]),
	}, times, api.OK
}

// toldPressed is a pad's byte: each letter has its bit.
func toldPressed(pad string) uint8 {
	bits := map[rune]uint8{'A': 1, 'B': 2, 'S': 4, 'T': 8, 'U': 16, 'D': 32, 'L': 64, 'R': 128}
	sum := uint8(0)
	for _, c := range pad {
		sum += bits[c]
	}
	return sum
}

// toldScript is all that is handed out of a text, the error and its line.
func toldScript(text string) ([]handed, api.Errno, int) {
	if len(text) > 65536 {
		return nil, api.ErrLong, 0
	}
	lines := strings.Split(text, "\n")
	if lines[0] != "script 1" {
		return nil, api.ErrHead, 1
	}
	var out []handed
	for i, line := range lines {
		if i == 0 || line == "" || line[0] == '#' {
			continue
		}
		turn, times, e := toldRecord(line)
		if e == api.OK && len(out)+times > 4096 {
			e = api.ErrMany
		}
		if e != api.OK {
			return out, e, i + 1
		}
		for range times {
			out = append(out, handed{i + 1, turn})
		}
	}
	return out, api.OK, 0
}

// toldText is a script of turns.
func toldText(turns []api.Turn) string {
	lines := []string{"script 1"}
	for i := 0; i < len(turns); {
		n := i + 1
		for n < len(turns) && turns[n] == turns[i] {
			n++
		}
		lines = append(lines, toldLine(turns[i], n-i))
		i = n
	}
	return strings.Join(lines, "\n") + "\n"
}

// toldLine is a record's line.
func toldLine(t api.Turn, times int) string {
	pad := func(b uint8) string {
		text := []byte("RLDUTSBA")
		for i, digit := range fmt.Sprintf("%08b", b) {
			if digit == '0' {
				text[i] = '.'
			}
		}
		return string(text)
	}
	c := map[[2]bool]int{{false, false}: 0, {false, true}: 1, {true, false}: 2, {true, true}: 3}[[2]bool{t.Flush, t.Reset}]
	line := fmt.Sprintf("|%d|%d|%s|%s|", c, t.Budget, pad(t.One), pad(t.Two))
	if times > 1 {
		line += fmt.Sprintf(" x%d", times)
	}
	return line
}
