package console

import (
	"strconv"
	"strings"
)

// remark begins a line that is passed over.
const remark = "#"

// How a number is written.
const (
	hexSign    = "$"
	mostDigits = 10 // of a decimal one
	mostHex    = 8  // of a hexadecimal one
	numberBits = 32 // of its value
)

// linesOf is the lines of a text. Behind the last line feed there is one only if something stands there.
func linesOf(text string) []string {
	lines := strings.Split(text, "\n")
	if last := len(lines) - 1; lines[last] == "" {
		lines = lines[:last]
	}
	return lines
}

// wordsOf is the words of a line. The blank alone parts them: a tab or a carriage return is a letter.
func wordsOf(line string) []string {
	return strings.FieldsFunc(line, func(r rune) bool { return r == ' ' })
}

// numberOf is the number that a word is, if it is one.
func numberOf(word string) (int, bool) {
	digits, base, most := word, 10, mostDigits
	if rest, ok := strings.CutPrefix(word, hexSign); ok {
		digits, base, most = rest, 16, mostHex
	}
	if len(digits) > most {
		return 0, false
	}
	n, err := strconv.ParseUint(digits, base, numberBits)
	return int(n), err == nil
}
