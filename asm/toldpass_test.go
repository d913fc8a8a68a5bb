package asm_test

import (
	"math/big"
	"slices"
	"strconv"
	"strings"
	"unicode/utf8"

	"tandem/api"
	"tandem/asm"
	"tandem/isa"
)

// toldOps is the operations by their names.
var toldOps = func() map[string]api.Op {
	m := map[string]api.Op{}
	for op := range api.Op(api.OpCount) {
		m[isa.Name(op)] = op
	}
	return m
}()

func toldBarred(name string) bool {
	_, ok := toldOps[strings.ToUpper(name)]
	return ok || among(strings.ToUpper(name), "A X Y")
}

// line reads a line's form, and only then does what it says.
func (m *toldMachine) line(text string, number int) {
	r := toldRead(toldCut(text))
	var label *toldToken
	if t := r.peek(); (t.kind == "name" || t.kind == "@") && len(r.list) > 1 && r.list[1].text == ":" {
		if t.kind == "name" && toldBarred(t.text) {
			toldFail(t.col, asm.ErrName)
		}
		label = &t
		r.take()
		r.take()
	}
	act := m.statement(r, number)
	r.stop()
	if label != nil {
		if label.kind == "name" {
			m.stretch = strconv.Itoa(number)
		}
		m.name(*label, big.NewInt(int64(m.here)))
	}
	act()
}

func (m *toldMachine) name(t toldToken, v *big.Int) {
	if m.names[m.full(t)] != nil {
		toldFail(t.col, asm.ErrTwice)
	}
	m.names[m.full(t)] = v
}

// late is what the names are in this pass: in the second, all that the first has met.
func (m *toldMachine) late() *toldEnv {
	env := m.toldEnv
	if m.second {
		env.names = m.all
	}
	return &env
}

func (m *toldMachine) statement(r *toldReader, number int) func() {
	t := r.take()
	switch t.kind {
	case "end":
		return func() {}
	case ".":
		return m.directive(t, r, number)
	case "name":
	default:
		toldFail(t.col, asm.ErrToken)
	}
	if r.is("=") {
		if toldBarred(t.text) {
			toldFail(t.col, asm.ErrName)
		}
		r.take()
		e := r.expr()
		return func() {
			if m.names[t.text] != nil {
				toldFail(t.col, asm.ErrTwice)
			}
			m.name(t, e.value(&m.toldEnv))
		}
	}
	op, ok := toldOps[strings.ToUpper(t.text)]
	if !ok {
		toldFail(t.col, asm.ErrName)
	}
	return m.operation(t, op, r, number)
}

// operation reads an operand; its shape is written with e for the expression.
func (m *toldMachine) operation(t toldToken, op api.Op, r *toldReader, number int) func() {
	col, shape := r.peek().col, ""
	var e toldExpr
	switch {
	case r.peek().kind == "end":
		col = t.col
	case r.is("A a"):
		r.take()
		shape = "A"
	case r.is("#"):
		r.take()
		e, shape = r.expr(), "#e"
	case r.is("("):
		r.take()
		e = r.expr()
		if r.need(") ,").text == "," {
			r.need("X x")
			r.need(")")
			shape = "(e,X)"
		} else if shape = "(e)"; r.is(",") {
			r.take()
			r.need("Y y")
			shape = "(e),Y"
		}
	default:
		e, shape = r.expr(), "e"
		if r.is(",") {
			r.take()
			shape += "," + strings.ToUpper(r.need("X Y x y").text)
		}
	}
	return func() { m.encode(t, op, shape, e, col, number) }
}

func (m *toldMachine) encode(t toldToken, op api.Op, shape string, e toldExpr, col, number int) {
	if !m.second {
		if _, ok := toldMode(op, shape, true); !ok {
			toldFail(col, asm.ErrMode)
		}
		short := false
		if strings.HasPrefix(shape, "e") && !(shape == "e" && can(op, api.ModeRel)) {
			f := toldCatch(func() { short = toldIn(e.value(&m.toldEnv), 0, 255) && !e.wide })
			if f != nil && f.Err != asm.ErrUnknown {
				panic(*f)
			}
		}
		m.modes[number], _ = toldMode(op, shape, short)
	}
	mode := m.modes[number]
	code, _ := isa.Encode(op, mode)
	data := make([]byte, isa.Decode(code).Len)
	data[0] = code
	if m.second && len(data) > 1 {
		v := int(e.value(m.late()).Int64())
		low, high := 0, 65535
		if mode == api.ModeImm {
			low = -128
		}
		if len(data) == 2 && mode != api.ModeRel {
			high = 255
		}
		if v < low || v > high {
			toldFail(col, asm.ErrRange)
		}
		if mode == api.ModeRel {
			for v -= m.here + 2; v < -32768; v += 65536 {
			}
			if v > 32767 {
				v -= 65536
			}
			if v < -128 || v > 127 {
				toldFail(col, asm.ErrFar)
			}
		}
		for i := range data[1:] {
			data[1+i] = byte(v >> (8 * i))
		}
	}
	m.lay(t, data)
}

// lay takes places in the first pass, and lays bytes in the second.
func (m *toldMachine) lay(t toldToken, data []byte) {
	for _, b := range data {
		place := [2]int{m.bank, m.here % 8192}
		if m.here > 65535 || m.places[place] {
			toldFail(t.col, asm.ErrOver)
		}
		m.places[place] = true
		if m.cut {
			m.obj.Segs = append(m.obj.Segs, api.Seg{Bank: m.bank, Org: m.here})
			m.cut = false
		}
		s := &m.obj.Segs[len(m.obj.Segs)-1]
		s.Data = append(s.Data, b)
		m.here++
	}
}

func (m *toldMachine) directive(t toldToken, r *toldReader, number int) func() {
	once := map[string]func(v int){
		".org": func(v int) { m.here, m.cut = v, true }, ".bank": func(v int) { m.bank, m.cut = v, true },
		".inesprg": func(v int) { m.obj.Head.Prg = v }, ".ineschr": func(v int) { m.obj.Head.Chr = v }, ".inesmap": func(v int) { m.obj.Head.Mapper = v }, ".inesmir": func(v int) { m.obj.Head.Mirror = v },
		".if": func(v int) {
			m.ifs = append(m.ifs, &toldIf{line: number, col: t.col, live: v != 0})
		},
	}
	bounds := map[string][2]int64{".org": {0, 65535}, ".bank": {0, 191}, ".inesprg": {1, 64}, ".ineschr": {0, 64}, ".inesmap": {0, 255}, ".inesmir": {0, 2}, ".if": {-1 << 31, 1<<31 - 1}}
	name := strings.ToLower(t.text)
	if f := once[name]; f != nil {
		e := r.expr()
		return func() {
			if name == ".if" && len(m.ifs) == 16 {
				toldFail(t.col, asm.ErrDeep)
			}
			f(m.in(e, bounds[name][0], bounds[name][1]))
		}
	}
	switch name {
	case ".byte", ".word":
		return m.list(t, r, name == ".byte")
	case ".res", ".align":
		return m.fill(t, r, name == ".align")
	case ".charmap", ".uncharmap":
		return m.charmap(r, name == ".charmap")
	case ".else":
		return func() {
			if len(m.ifs) == 0 || m.ifs[len(m.ifs)-1].turned {
				toldFail(t.col, asm.ErrDirective)
			}
			top := m.ifs[len(m.ifs)-1]
			top.live, top.turned = !top.live, true
		}
	case ".endif":
		return func() {
			if len(m.ifs) == 0 {
				toldFail(t.col, asm.ErrDirective)
			}
			m.ifs = m.ifs[:len(m.ifs)-1]
		}
	}
	toldFail(t.col, asm.ErrDirective)
	return nil
}

func (m *toldMachine) list(t toldToken, r *toldReader, bytes bool) func() {
	var items []func() []byte
	for more := true; more; {
		if text := r.peek(); bytes && text.kind == "text" {
			r.take()
			items = append(items, func() []byte {
				var b []byte
				for _, c := range text.text[1 : len(text.text)-1] {
					b = append(b, byte(m.char(c, text.col)))
				}
				return b
			})
		} else {
			e := r.expr()
			items = append(items, func() []byte {
				n := 2 - boolInt(bytes)
				if !m.second {
					return make([]byte, n)
				}
				v := m.late().in(e, []int64{-32768, -128}[boolInt(bytes)], []int64{65535, 255}[boolInt(bytes)])
				return []byte{byte(v), byte(v >> 8)}[:n]
			})
		}
		if more = r.is(","); more {
			r.take()
		}
	}
	return func() {
		var all []byte
		for _, f := range items {
			all = append(all, f()...)
		}
		m.lay(t, all)
	}
}

func (m *toldMachine) fill(t toldToken, r *toldReader, align bool) func() {
	e := r.expr()
	var f *toldExpr
	if r.is(",") {
		r.take()
		with := r.expr()
		f = &with
	}
	return func() {
		n := 0
		if align {
			for by := m.in(e, 1, 8192); (m.here+n)%by != 0; n++ {
			}
		} else {
			n = m.in(e, 0, 65536)
		}
		v := 0
		if f != nil && m.second {
			v = m.late().in(*f, -128, 255)
		}
		m.lay(t, slices.Repeat([]byte{byte(v)}, n))
	}
}

func (m *toldMachine) charmap(r *toldReader, gives bool) func() {
	c := r.take()
	if c.kind != "char" {
		toldFail(c.col, asm.ErrToken)
	}
	char, _ := utf8.DecodeRuneInString(c.text[1:])
	if !gives {
		return func() { delete(m.chars, char) }
	}
	r.need(",")
	e := r.expr()
	return func() { m.chars[char] = (m.in(e, -128, 255) + 256) % 256 }
}
