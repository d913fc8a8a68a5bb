package asm

// maxDeep is how many parentheses and signs ahead of a value may stand within one another.
const maxDeep = 64

// what is what a step of an expression does.
type what int

const (
	whatNumber what = iota
	whatChar
	whatName
	whatHere
	whatOne // a sign ahead of a value
	whatTwo // a sign between two
)

// step is a value that is laid on a stack, or a sign that works on what lies there.
type step struct {
	what what
	at   token
}

// expr is an expression: its steps in the order in which they are done, from the left, a sign behind what it works on.
type expr struct {
	steps []step
	col   int  // of its first token
	wide  bool // one of its numbers is
}

// symbol is a name, and for a local one the stretch to which it belongs.
type symbol struct {
	name    string
	stretch int
}

// symbolOf is what a name means in a stretch.
func symbolOf(t token, stretch int) symbol {
	if t.kind == kindLocal {
		return symbol{t.text, stretch}
	}
	return symbol{name: t.text}
}

// scope is what the values of an expression hang on.
type scope struct {
	names   map[symbol]int
	chars   map[rune]int
	stretch int
	placed  bool // there is an address
	here    int  // that address
}

// value works an expression out.
func (e *expr) value(s *scope) (int, error) {
	var stack []int
	for _, st := range e.steps {
		n := len(stack)
		switch st.what {
		case whatOne:
			v, ok := one(st.at.text, stack[n-1])
			if !ok {
				return 0, wrong(st.at.col, ErrRange)
			}
			stack[n-1] = v
		case whatTwo:
			v, ok := two(st.at.text, stack[n-2], stack[n-1])
			if !ok {
				return 0, wrong(st.at.col, ErrRange)
			}
			stack = append(stack[:n-2], v)
		default:
			v, err := s.value(st)
			if err != nil {
				return 0, err
			}
			stack = append(stack, v)
		}
	}
	return stack[0], nil
}

// within is the value of an expression, if it lies within bounds.
func (e *expr) within(s *scope, low, high int) (int, error) {
	v, err := e.value(s)
	if err == nil && (v < low || v > high) {
		err = wrong(e.col, ErrRange)
	}
	return v, err
}

// value is the value of a step that is no sign.
func (s *scope) value(st step) (int, error) {
	switch st.what {
	case whatNumber:
		return st.at.value, nil
	case whatChar:
		v, ok := s.char(rune(st.at.value))
		if !ok {
			return 0, wrong(st.at.col, ErrRange)
		}
		return v, nil
	case whatHere:
		if !s.placed {
			return 0, wrong(st.at.col, ErrUnknown)
		}
		return s.here, nil
	}
	v, known := s.names[symbolOf(st.at, s.stretch)]
	if !known {
		return 0, wrong(st.at.col, ErrUnknown)
	}
	if v < least || v > most {
		return 0, wrong(st.at.col, ErrRange)
	}
	return v, nil
}

// char is the value of a character, if it has one.
func (s *scope) char(r rune) (int, bool) {
	if v, said := s.chars[r]; said {
		return v, true
	}
	return int(r), r < 128
}

// one works out a sign ahead of a value, and tells whether what comes of it may be.
func one(sign string, v int) (int, bool) {
	switch sign {
	case "-":
		v = -v
	case "~":
		v = ^v
	case "<":
		v &= 255
	case ">":
		v = v >> 8 & 255
	}
	return v, v <= most
}

// two works out a sign between two values, and tells whether what comes of it may be.
func two(sign string, a, b int) (int, bool) {
	switch sign {
	case "|":
		a |= b
	case "^":
		a ^= b
	case "&":
		a &= b
	case "<<":
		if b < 0 || b > 31 {
			return 0, false
		}
		a <<= b
	case ">>":
		if b < 0 || b > 31 {
			return 0, false
		}
		a >>= b
	case "+":
		a += b
	case "-":
		a -= b
	case "*":
		a *= b
	case "/":
		if b == 0 {
			return 0, false
		}
		a /= b
	}
	return a, least <= a && a <= most
}
