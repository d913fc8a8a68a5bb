package asm

import (
	"slices"
	"strings"

	"tandem/api"
	"tandem/isa"
)

// banks is how many banks a source may lay bytes in.
const banks = 192

// branch is an .if that is open.
type branch struct {
	line, col int
	counts    bool // the lines that follow do
	turned    bool // its .else has been
}

// program is a source on its way through the passes.
type program struct {
	ops     map[string]api.Op
	names   map[symbol]int
	chars   map[rune]int
	list    []*statement
	head    api.Head
	address int
	bank    int
	stretch int
	open    []branch
	unseen  int           // .if that are open in lines that do not count
	laid    [banks][]bool // by places; a bank without bytes has no list

	segs   []api.Seg
	joined bool // the next byte goes on with the last segment
}

// newProgram is a source of which nothing has been read.
func newProgram() *program {
	p := &program{ops: map[string]api.Op{}, names: map[symbol]int{}, chars: map[rune]int{}, head: api.Head{Prg: 1}}
	for op := range api.Op(api.OpCount) {
		p.ops[isa.Name(op)] = op
	}
	return p
}

// scope is what the expressions of a statement hang on.
func (p *program) scope(st *statement) *scope {
	return &scope{names: p.names, chars: p.chars, stretch: st.stretch, placed: true, here: st.address}
}

// given is the names that are not local, by name.
func (p *program) given() []api.Sym {
	var list []api.Sym
	for s, v := range p.names {
		if s.name[0] != '@' {
			list = append(list, api.Sym{Name: strings.Clone(s.name), Value: v})
		}
	}
	slices.SortFunc(list, func(a, b api.Sym) int { return strings.Compare(a.Name, b.Name) })
	return list
}

// beyond is the fault of the first statement that lays a byte in a bank that is not there.
func (p *program) beyond(there int) error {
	for _, st := range p.list {
		if st.size > 0 && st.bank >= there {
			return &Fault{Line: st.line, Col: st.head.col, Err: ErrOver}
		}
	}
	return nil
}

// cartridge is the cartridge whose banks hold the segments.
func (p *program) cartridge() api.Cart {
	prg := p.head.Prg * api.PrgUnit
	all := make([]byte, prg+p.head.Chr*api.ChrUnit)
	for _, s := range p.segs {
		for i, b := range s.Data {
			all[s.Bank*api.Bank8+(s.Org+i)%api.Bank8] = b
		}
	}
	c := api.Cart{Format: api.INes, Mapper: p.head.Mapper, Vert: p.head.Mirror == 1, Four: p.head.Mirror == 2, PrgRam: 8192, Prg: all[:prg], Chr: all[prg:]}
	if len(c.Chr) == 0 {
		c.ChrRam = 8192
	}
	return c
}
