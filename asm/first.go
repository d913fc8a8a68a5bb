package asm

import (
	"strings"

	"tandem/api"
	"tandem/isa"
)

// maxIf is how many .if may stand within one another.
const maxIf = 16

// firstPass reads the lines, gives the names, and settles where each byte will lie.
func (p *program) firstPass(src string) error {
	for n, text := range strings.Split(src, "\n") {
		text = strings.TrimSuffix(text, "\r")
		if !p.counts(text) {
			continue
		}
		if err := p.line(text, n+1); err != nil {
			return onLine(n+1, err)
		}
	}
	if n := len(p.open); n > 0 {
		return &Fault{Line: p.open[n-1].line, Col: p.open[n-1].col, Err: ErrDirective}
	}
	return nil
}

// counts tells whether a line is to be read. Of one that is not, nothing matters but whether it opens or closes an .if.
func (p *program) counts(text string) bool {
	n := len(p.open)
	if n == 0 || p.open[n-1].counts {
		return true
	}
	switch leading(text) {
	case ".if":
		p.unseen++
	case ".else":
		return p.unseen == 0
	case ".endif":
		if p.unseen == 0 {
			return true
		}
		p.unseen--
	}
	return false
}

// leading is the directive with which a line begins, in small letters; "" if it begins with none.
func leading(text string) string {
	text = strings.TrimLeft(text, " \t")
	if !strings.HasPrefix(text, ".") {
		return ""
	}
	return strings.ToLower(text[:1+word(text[1:])])
}

// line takes a line that counts through the first pass.
func (p *program) line(text string, n int) error {
	list, err := cut(text)
	if err != nil {
		return err
	}
	st, err := p.read(list)
	if err != nil {
		return err
	}
	st.line = n
	if st.label.kind != kindEnd {
		if err := p.name(st.label); err != nil {
			return err
		}
	}
	st.stretch, st.bank, st.address = p.stretch, p.bank, p.address
	p.list = append(p.list, st)
	return p.settle(st)
}

// name gives a label the address. One that is no local name begins a stretch.
func (p *program) name(label token) error {
	if label.kind == kindName {
		p.stretch++
	}
	return p.give(label, p.address)
}

// give gives a name its value.
func (p *program) give(t token, v int) error {
	s := symbolOf(t, p.stretch)
	if _, known := p.names[s]; known {
		return wrong(t.col, ErrTwice)
	}
	p.names[s] = v
	return nil
}

// settle does what the first pass has to do of a statement.
func (p *program) settle(st *statement) (err error) {
	switch st.does {
	case doNothing:
		return nil
	case doGive:
		return p.assign(st)
	case doOperation:
		if err := p.choose(st); err != nil {
			return err
		}
		return p.reserve(st, isa.Decode(st.code).Len)
	case doByte:
		n, err := p.measure(st)
		if err != nil {
			return err
		}
		return p.reserve(st, n)
	case doWord:
		return p.reserve(st, 2*len(st.items))
	case doUncharmap:
		delete(p.chars, st.char)
		return nil
	case doElse:
		return p.turn(st)
	case doEndif:
		return p.shut(st)
	case doIf:
		if len(p.open) == maxIf {
			return wrong(st.head.col, ErrDeep)
		}
	}
	if st.value, err = st.e.within(p.scope(st), st.least, st.most); err != nil {
		return err
	}
	return p.obey(st)
}

// obey does what a directive asks for whose number is needed at once.
func (p *program) obey(st *statement) error {
	switch st.does {
	case doOrg:
		p.address = st.value
	case doBank:
		p.bank = st.value
	case doRes:
		return p.reserve(st, st.value)
	case doAlign:
		return p.reserve(st, (st.value-p.address%st.value)%st.value)
	case doCharmap:
		p.chars[st.char] = st.value & 255
	case doIf:
		p.open = append(p.open, branch{line: st.line, col: st.head.col, counts: st.value != 0})
	case doPrg:
		p.head.Prg = st.value
	case doChr:
		p.head.Chr = st.value
	case doMapper:
		p.head.Mapper = st.value
	case doMirror:
		p.head.Mirror = st.value
	}
	return nil
}

// assign gives a name the value of its expression. That it was given already comes ahead of the expression's own faults.
func (p *program) assign(st *statement) error {
	if _, known := p.names[symbolOf(st.head, st.stretch)]; known {
		return wrong(st.head.col, ErrTwice)
	}
	v, err := st.e.value(p.scope(st))
	if err != nil {
		return err
	}
	return p.give(st.head, v)
}

// turn is an .else.
func (p *program) turn(st *statement) error {
	n := len(p.open)
	if n == 0 || p.open[n-1].turned {
		return wrong(st.head.col, ErrDirective)
	}
	b := &p.open[n-1]
	b.turned, b.counts = true, !b.counts
	return nil
}

// shut is an .endif.
func (p *program) shut(st *statement) error {
	if len(p.open) == 0 {
		return wrong(st.head.col, ErrDirective)
	}
	p.open = p.open[:len(p.open)-1]
	return nil
}

// measure is how many bytes a .byte lays: what its texts say must be known here already.
func (p *program) measure(st *statement) (int, error) {
	n := 0
	for _, it := range st.items {
		if !it.isText {
			n++
			continue
		}
		data, err := p.scope(st).bytes(it)
		if err != nil {
			return 0, err
		}
		n += len(data)
	}
	return n, nil
}

// reserve takes the places of a statement's bytes.
func (p *program) reserve(st *statement, n int) error {
	if n > api.Bank8 || p.address+n > 65536 {
		return wrong(st.head.col, ErrOver)
	}
	if p.laid[p.bank] == nil {
		p.laid[p.bank] = make([]bool, api.Bank8)
	}
	for range n {
		place := &p.laid[p.bank][p.address%api.Bank8]
		if *place {
			return wrong(st.head.col, ErrOver)
		}
		*place = true
		p.address++
	}
	st.size = n
	return nil
}
