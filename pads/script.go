package pads

import (
	"iter"
	"math"
	"strconv"
	"strings"

	"tandem/api"
)

// How a script is written.
const (
	head       = "script 1"
	remark     = "#"
	bar        = "|"
	pieces     = 6 // of a record, between its bars
	repeat     = " x"
	leastTimes = 2 // that a repeat tells
	mostTimes  = 4096
	letters    = "RLDUTSBA" // of a pad's buttons, from bit 7 down to bit 0
	released   = '.'
	resetBit   = 1 // of a record's first number
	flushBit   = 2
	mostBits   = resetBit | flushBit
)

// record is what a line says: a turn, and how many times it comes; or what is wrong with it, and then no turn. A line that says nothing is the zero record.
type record struct {
	turn  api.Turn
	times int
	wrong api.Errno
}

// records goes through a script's lines: their numbers, and what they say. It ends behind the first wrong one.
func records(text string) iter.Seq2[int, record] {
	return func(yield func(int, record) bool) {
		if len(text) > api.MaxScript {
			yield(0, record{wrong: api.ErrLong})
			return
		}
		room := api.MaxTurns
		for number, line := range lines(text) {
			r := readLine(number, line)
			if r.times > room {
				r = record{wrong: api.ErrMany}
			}
			room -= r.times
			if !yield(number, r) || r.wrong != api.OK {
				return
			}
		}
	}
}

// lines goes through a text's lines and their numbers.
func lines(text string) iter.Seq2[int, string] {
	return func(yield func(int, string) bool) {
		rest := text // a variable of this time through: the next one begins anew
		for number, more := 1, true; more; number++ {
			var line string
			line, rest, more = strings.Cut(rest, "\n")
			if !yield(number, line) {
				return
			}
		}
	}
}

// readLine is what the line of that number says.
func readLine(number int, line string) record {
	switch {
	case number == 1 && line != head:
		return record{wrong: api.ErrHead}
	case number == 1 || line == "" || strings.HasPrefix(line, remark):
		return record{}
	}
	return readRecord(line)
}

// readRecord is what a line says that must be a record; of several faults it tells the first.
func readRecord(line string) record {
	// One piece more than there may be is enough to tell that there are too many.
	l := strings.SplitN(line, bar, pieces+1)
	if len(l) != pieces || l[0] != "" {
		return record{wrong: api.ErrRecord}
	}
	bits, ok := readNumber(l[1], mostBits)
	if !ok {
		return record{wrong: api.ErrRecord}
	}
	budget, ok := readNumber(l[2], math.MaxUint32)
	if !ok {
		return record{wrong: api.ErrBudget}
	}
	one, okOne := readPad(l[3])
	two, okTwo := readPad(l[4])
	if !okOne || !okTwo {
		return record{wrong: api.ErrPad}
	}
	times, ok := readRepeat(l[5])
	if !ok {
		return record{wrong: api.ErrRepeat}
	}
	turn := api.Turn{Budget: budget, One: one, Two: two, Flush: bits&flushBit != 0, Reset: bits&resetBit != 0}
	return record{turn: turn, times: times}
}

// readNumber is the number that digits tell; false if it is above most, or written in another way than with no needless 0.
func readNumber(digits string, most uint32) (uint32, bool) {
	if len(digits) > 1 && digits[0] == '0' {
		return 0, false
	}
	v, err := strconv.ParseUint(digits, 10, 32)
	if err != nil || v > uint64(most) {
		return 0, false
	}
	return uint32(v), true
}

// readPad is the buttons that a pad's text says are pressed.
func readPad(text string) (uint8, bool) {
	if len(text) != len(letters) {
		return 0, false
	}
	pressed := uint8(0)
	for i := range len(letters) {
		pressed <<= 1
		switch text[i] {
		case letters[i]:
			pressed |= 1
		case released:
		default:
			return 0, false
		}
	}
	return pressed, true
}

// readRepeat is how many times a turn comes, by what stands behind its record's last bar.
func readRepeat(text string) (int, bool) {
	if text == "" {
		return 1, true
	}
	digits, ok := strings.CutPrefix(text, repeat)
	if !ok {
		return 0, false
	}
	times, ok := readNumber(digits, mostTimes)
	if !ok || times < leastTimes {
		return 0, false
	}
	return int(times), true
}

// runOf is how many turns at the beginning of a list, which has one, are equal.
func runOf(turns []api.Turn) int {
	n := 1
	for n < len(turns) && turns[n] == turns[0] {
		n++
	}
	return n
}

// appendRecord lays a turn that comes so many times down as a line.
func appendRecord(text []byte, t api.Turn, times int) []byte {
	bits := uint64(0)
	if t.Reset {
		bits |= resetBit
	}
	if t.Flush {
		bits |= flushBit
	}
	text = strconv.AppendUint(append(text, bar...), bits, 10)
	text = strconv.AppendUint(append(text, bar...), uint64(t.Budget), 10)
	text = appendPad(append(text, bar...), t.One)
	text = appendPad(append(text, bar...), t.Two)
	text = append(text, bar...)
	if times >= leastTimes {
		text = strconv.AppendInt(append(text, repeat...), int64(times), 10)
	}
	return append(text, '\n')
}

// appendPad lays the buttons that are pressed down as a pad's text.
func appendPad(text []byte, pressed uint8) []byte {
	for i := range len(letters) {
		b := byte(released)
		if pressed&(0x80>>i) != 0 {
			b = letters[i]
		}
		text = append(text, b)
	}
	return text
}
