package asm

import "strings"

// reader goes through a line's tokens.
type reader struct {
	list []token
	at   int
	deep int // parentheses and signs within which it reads
}

// next is the token that is to be read; behind the last one, an end at its column.
func (r *reader) next() token {
	if r.at < len(r.list) {
		return r.list[r.at]
	}
	if r.at == 0 {
		return token{kind: kindEnd, col: 1}
	}
	last := r.list[len(r.list)-1]
	return token{kind: kindEnd, col: last.col + len(last.text)}
}

// follows tells whether a sign stands behind the token that is to be read.
func (r *reader) follows(sign string) bool {
	return r.at+1 < len(r.list) && r.list[r.at+1].text == sign
}

// skip passes over a sign, if it is the one that is to be read.
func (r *reader) skip(sign string) bool {
	if r.next().text != sign {
		return false
	}
	r.at++
	return true
}

// must passes over what has to stand here: a sign, or a register in either case.
func (r *reader) must(text string) error {
	t := r.next()
	if strings.ToUpper(t.text) != text {
		return wrong(t.col, ErrToken)
	}
	r.at++
	return nil
}

// end tells what is left over as a fault.
func (r *reader) end() error {
	if t := r.next(); t.kind != kindEnd {
		return wrong(t.col, ErrToken)
	}
	return nil
}

// register tells whether a name is that of a register.
func register(name string) bool {
	switch strings.ToUpper(name) {
	case "A", "X", "Y":
		return true
	}
	return false
}

// expression reads an expression.
func (r *reader) expression() (expr, error) {
	e := expr{col: r.next().col}
	err := r.binary(&e, 1)
	return e, err
}

// row is how strongly a sign between two values binds; 0 if it is none.
func row(sign string) int {
	switch sign {
	case "|":
		return 1
	case "^":
		return 2
	case "&":
		return 3
	case "<<", ">>":
		return 4
	case "+", "-":
		return 5
	case "*", "/":
		return 6
	}
	return 0
}

// binary reads values as long as the signs between them bind at least as strongly as weakest.
func (r *reader) binary(e *expr, weakest int) error {
	if err := r.unary(e); err != nil {
		return err
	}
	for row(r.next().text) >= weakest {
		sign := r.next()
		r.at++
		if err := r.binary(e, row(sign.text)+1); err != nil {
			return err
		}
		e.steps = append(e.steps, step{whatTwo, sign})
	}
	return nil
}

// unary reads a value with the signs ahead of it.
func (r *reader) unary(e *expr) error {
	t := r.next()
	switch t.text {
	case "-", "~", "<", ">":
		if err := r.enter(); err != nil {
			return err
		}
		if err := r.unary(e); err != nil {
			return err
		}
		e.steps = append(e.steps, step{whatOne, t})
		r.deep--
		return nil
	case "(":
		if err := r.enter(); err != nil {
			return err
		}
		if err := r.binary(e, 1); err != nil {
			return err
		}
		r.deep--
		return r.must(")")
	}
	return r.value(e)
}

// enter passes over a parenthesis or a sign within which a value stands.
func (r *reader) enter() error {
	if r.deep == maxDeep {
		return wrong(r.next().col, ErrDeep)
	}
	r.deep++
	r.at++
	return nil
}

// value reads a value that is one token.
func (r *reader) value(e *expr) error {
	t := r.next()
	st := step{at: t}
	switch {
	case t.kind == kindNumber:
		st.what = whatNumber
		e.wide = e.wide || t.wide
	case t.kind == kindChar:
		st.what = whatChar
	case t.kind == kindLocal, t.kind == kindName && !register(t.text):
		st.what = whatName
	case t.text == "*":
		st.what = whatHere
	default:
		return wrong(t.col, ErrToken)
	}
	r.at++
	e.steps = append(e.steps, st)
	return nil
}
