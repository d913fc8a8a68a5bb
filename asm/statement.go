package asm

import (
	"strings"

	"tandem/api"
)

// deed is what a statement does.
type deed int

const (
	doNothing deed = iota
	doGive
	doOperation
	doOrg
	doBank
	doByte
	doWord
	doRes
	doAlign
	doCharmap
	doUncharmap
	doIf
	doElse
	doEndif
	doPrg
	doChr
	doMapper
	doMirror
)

// form is which arguments a directive takes.
type form int

const (
	formNone  form = iota
	formOne        // e
	formFill       // e, and perhaps f
	formList       // e, e ..
	formItems      // as a list, with texts among them
	formChar       // a character
	formPair       // a character, e
)

// directives is the directives, with the bounds of what is worked out of them: at once, but for lists.
var directives = [...]struct {
	name        string
	does        deed
	form        form
	least, most int
}{
	{".org", doOrg, formOne, 0, 65535},
	{".bank", doBank, formOne, 0, 191},
	{".byte", doByte, formItems, -128, 255},
	{".word", doWord, formList, -32768, 65535},
	{".res", doRes, formFill, 0, 65536},
	{".align", doAlign, formFill, 1, 8192},
	{".charmap", doCharmap, formPair, -128, 255},
	{".uncharmap", doUncharmap, formChar, 0, 0},
	{".if", doIf, formOne, least, most},
	{".else", doElse, formNone, 0, 0},
	{".endif", doEndif, formNone, 0, 0},
	{".inesprg", doPrg, formOne, 1, 64},
	{".ineschr", doChr, formOne, 0, 64},
	{".inesmap", doMapper, formOne, 0, 255},
	{".inesmir", doMirror, formOne, 0, 2},
}

// shape is how an operand is written.
type shape int

const (
	shapeNone shape = iota
	shapeA
	shapeImm
	shapeViaX
	shapeViaY
	shapeVia
	shapePlain
	shapeX
	shapeY
)

// item is an argument of a list: an expression, or a text.
type item struct {
	isText bool
	text   string // what stands between the quotation marks
	e      expr
}

// statement is a line that counts: what it says, and what the first pass settles of it.
type statement struct {
	line        int
	label       token // an end, if there is none
	head        token // of the statement itself
	does        deed
	op          api.Op
	shape       shape
	operand     token // the operand's first
	char        rune
	e           expr // the operand, or the first argument
	items       []item
	least, most int // the bounds of a directive's numbers

	stretch int // between which two labels it stands
	bank    int
	address int
	size    int // how many bytes it lays
	code    uint8
	mode    api.Mode
	value   int // of what is worked out at once
}

// read reads a whole line's form.
func (p *program) read(list []token) (*statement, error) {
	r := &reader{list: list}
	st := &statement{}
	if t := r.next(); (t.kind == kindName || t.kind == kindLocal) && r.follows(":") {
		if p.taken(t.text) {
			return nil, wrong(t.col, ErrName)
		}
		st.label = t
		r.at += 2
	}
	st.head = r.next()
	if err := p.body(r, st); err != nil {
		return nil, err
	}
	return st, r.end()
}

// taken tells whether a name can't be given.
func (p *program) taken(name string) bool {
	_, isOp := p.ops[strings.ToUpper(name)]
	return isOp || register(name)
}

// body reads what stands behind a label.
func (p *program) body(r *reader, st *statement) (err error) {
	t := st.head
	switch {
	case t.kind == kindEnd:
		return nil
	case t.kind == kindDirective:
		return r.directive(st)
	case t.kind != kindName:
		return wrong(t.col, ErrToken)
	case r.follows("="):
		if p.taken(t.text) {
			return wrong(t.col, ErrName)
		}
		st.does = doGive
		r.at += 2
		st.e, err = r.expression()
		return err
	}
	op, isOp := p.ops[strings.ToUpper(t.text)]
	if !isOp {
		return wrong(t.col, ErrName)
	}
	st.does, st.op = doOperation, op
	r.at++
	return r.operand(st)
}

// operand reads an operation's operand.
func (r *reader) operand(st *statement) (err error) {
	t := r.next()
	st.operand = t
	switch {
	case t.kind == kindEnd:
		return nil
	case strings.ToUpper(t.text) == "A":
		st.shape = shapeA
		r.at++
		return nil
	case t.text == "(":
		return r.indirect(st)
	case t.text == "#":
		st.shape = shapeImm
		r.at++
		st.e, err = r.expression()
		return err
	}
	st.shape = shapePlain
	if st.e, err = r.expression(); err != nil || !r.skip(",") {
		return err
	}
	st.shape = shapeX
	if strings.ToUpper(r.next().text) == "Y" {
		st.shape = shapeY
		return r.must("Y")
	}
	return r.must("X")
}

// indirect reads an operand that begins with a parenthesis.
func (r *reader) indirect(st *statement) (err error) {
	r.at++
	if st.e, err = r.expression(); err != nil {
		return err
	}
	if r.skip(",") {
		st.shape = shapeViaX
		if err := r.must("X"); err != nil {
			return err
		}
		return r.must(")")
	}
	st.shape = shapeVia
	if err := r.must(")"); err != nil || !r.skip(",") {
		return err
	}
	st.shape = shapeViaY
	return r.must("Y")
}

// directive reads a directive and its arguments.
func (r *reader) directive(st *statement) error {
	name := strings.ToLower(st.head.text)
	for i := range directives {
		if d := directives[i]; d.name == name {
			st.does, st.least, st.most = d.does, d.least, d.most
			r.at++
			return r.arguments(st, d.form)
		}
	}
	return wrong(st.head.col, ErrDirective)
}

// arguments reads a directive's arguments.
func (r *reader) arguments(st *statement, f form) (err error) {
	switch f {
	case formOne:
		st.e, err = r.expression()
	case formFill:
		if st.e, err = r.expression(); err == nil && r.skip(",") {
			err = r.item(st, false)
		}
	case formList:
		err = r.items(st, false)
	case formItems:
		err = r.items(st, true)
	case formChar:
		err = r.char(st)
	case formPair:
		if err = r.char(st); err == nil {
			err = r.must(",")
		}
		if err == nil {
			st.e, err = r.expression()
		}
	}
	return err
}

// items reads arguments with commas between them.
func (r *reader) items(st *statement, texts bool) error {
	for {
		if err := r.item(st, texts); err != nil {
			return err
		}
		if !r.skip(",") {
			return nil
		}
	}
}

// item reads one argument of a list.
func (r *reader) item(st *statement, texts bool) error {
	if t := r.next(); texts && t.kind == kindText {
		st.items = append(st.items, item{isText: true, text: t.text[1 : len(t.text)-1], e: expr{col: t.col}})
		r.at++
		return nil
	}
	e, err := r.expression()
	st.items = append(st.items, item{e: e})
	return err
}

// char reads a character.
func (r *reader) char(st *statement) error {
	t := r.next()
	if t.kind != kindChar {
		return wrong(t.col, ErrToken)
	}
	st.char = rune(t.value)
	r.at++
	return nil
}
