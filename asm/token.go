package asm

import (
	"strings"
	"unicode/utf8"
)

// maxName is the bytes of the longest name.
const maxName = 32

// The bounds of every number.
const (
	least = -1 << 31
	most  = 1<<31 - 1
)

// kind is what a token is.
type kind int

const (
	kindEnd kind = iota // stands behind a line's last token
	kindName
	kindLocal
	kindDirective
	kindNumber
	kindChar
	kindText
	kindSign
)

// token is a piece of a line. Its text tells signs from all else: no other token is written as one.
type token struct {
	kind  kind
	text  string // as it is written
	col   int
	value int  // of a number; the code of a character
	wide  bool // a hexadecimal number that has digits enough for an address
}

// cut takes a line to pieces.
func cut(line string) ([]token, error) {
	var list []token
	at := 0
begin:
	if at == len(line) || line[at] == ';' {
		return list, nil
	}
	if line[at] == ' ' || line[at] == '\t' {
		at++
		goto begin
	}
	t, err := tokenOf(line[at:], at+1)
	if err != nil {
		return nil, err
	}
	list = append(list, t)
	at += len(t.text)
	goto begin
}

// tokenOf is the token with which a text begins that stands at a column.
func tokenOf(text string, col int) (token, error) {
	switch c := text[0]; {
	case c == '$':
		return numberOf(text, col, 1, 16)
	case c == '%':
		return numberOf(text, col, 1, 2)
	case '0' <= c && c <= '9':
		return numberOf(text, col, 0, 10)
	case c == '\'':
		return charOf(text, col)
	case c == '"':
		return textOf(text, col)
	case c == '@' && word(text[1:]) > 0:
		return nameOf(text[:1+word(text[1:])], col, kindLocal)
	case c == '.' && word(text[1:]) > 0:
		return nameOf(text[:1+word(text[1:])], col, kindDirective)
	case word(text) > 0:
		return nameOf(text[:word(text)], col, kindName)
	}
	return signOf(text, col)
}

// word is how many letters, digits and '_' a text begins with.
func word(text string) int {
	n := 0
	for n < len(text) && (text[n] == '_' || digit(text[n]) < 36) {
		n++
	}
	return n
}

// digit is what a byte is worth as a digit, letters going on behind 9; 36 if it is neither.
func digit(c byte) int {
	switch {
	case '0' <= c && c <= '9':
		return int(c - '0')
	case 'a' <= c && c <= 'z':
		return int(c-'a') + 10
	case 'A' <= c && c <= 'Z':
		return int(c-'A') + 10
	}
	return 36
}

// nameOf is a name of one of the three kinds.
func nameOf(text string, col int, k kind) (token, error) {
	if len(text) > maxName {
		return token{}, wrong(col, ErrName)
	}
	return token{kind: k, text: text, col: col}, nil
}

// numberOf is the number of a base, whose digits stand behind a mark of so many bytes.
func numberOf(text string, col, mark, base int) (token, error) {
	digits := text[mark : mark+word(text[mark:])]
	if digits == "" {
		return token{}, wrong(col, ErrToken)
	}
	v := 0
	for i := range len(digits) {
		d := digit(digits[i])
		if d >= base {
			return token{}, wrong(col, ErrToken)
		}
		v = min(v*base+d, most+1) // so that no number of digits makes it turn over
	}
	if v > most {
		return token{}, wrong(col, ErrRange)
	}
	return token{kind: kindNumber, text: text[:mark+len(digits)], col: col, value: v, wide: base == 16 && len(digits) > 2}, nil
}

// charOf is a character between apostrophes.
func charOf(text string, col int) (token, error) {
	r, n := utf8.DecodeRuneInString(text[1:])
	if r == utf8.RuneError && n == 1 {
		return token{}, wrong(col+1, ErrToken)
	}
	if !strings.HasPrefix(text[1+n:], "'") {
		return token{}, wrong(col, ErrToken)
	}
	return token{kind: kindChar, text: text[:n+2], col: col, value: int(r)}, nil
}

// textOf is characters between quotation marks.
func textOf(text string, col int) (token, error) {
	for i, r := range text[1:] {
		if r == utf8.RuneError && !strings.HasPrefix(text[1+i:], string(r)) { // a byte that is no UTF-8, and not that rune itself
			return token{}, wrong(col+1+i, ErrToken)
		}
		if r == '"' {
			return token{kind: kindText, text: text[:i+2], col: col}, nil
		}
	}
	return token{}, wrong(col, ErrToken)
}

// signOf is a sign; a byte that begins no token is a fault.
func signOf(text string, col int) (token, error) {
	n := 1
	if strings.HasPrefix(text, "<<") || strings.HasPrefix(text, ">>") {
		n = 2
	}
	if strings.IndexByte("#(),:=+-*/&|^~<>", text[0]) < 0 {
		return token{}, wrong(col, ErrToken)
	}
	return token{kind: kindSign, text: text[:n], col: col}, nil
}
