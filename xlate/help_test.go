package xlate_test

import (
	"fmt"
	"math/rand"
	"slices"
	"strings"
	"testing"

	"tandem/api"
	"tandem/isa"
	"tandem/xlate"
)

// land is a memory of 64 KiB, whose first $2000 addresses mean 2 KiB. It keeps a list of what it was asked.
type land struct {
	cells  [0x10000]uint8
	reads  [256]bool // by page: is a read plain
	writes [256]bool
	own    map[uint16]bool // a store there must leave the running block
	asked  []touch
	loads  []uint16
	stores []touch
}

// touch is an access that a land was asked about, or a store with its value.
type touch struct {
	addr  uint16
	write bool
	v     uint8
}

// cell is where the byte of an address lies.
func cell(addr uint16) uint16 {
	if addr < 0x2000 {
		return addr % 0x800
	}
	return addr
}

func (l *land) Plain(addr uint16, write bool) bool {
	l.asked = append(l.asked, touch{addr: addr, write: write})
	if write {
		return l.writes[addr/256]
	}
	return l.reads[addr/256]
}

func (l *land) Load(addr uint16) uint8 {
	l.loads = append(l.loads, addr)
	return l.cells[cell(addr)]
}

func (l *land) Store(addr uint16, v uint8) bool {
	l.stores = append(l.stores, touch{addr, true, v})
	l.cells[cell(addr)] = v
	return l.own[cell(addr)]
}

// put lays bytes.
func (l *land) put(addr uint16, code ...uint8) {
	for i, v := range code {
		l.cells[cell(addr+uint16(i))] = v
	}
}

// console is a land like a console's: work RAM is plain, and so are reads of PRG; the devices are not.
func console() *land {
	l := &land{own: map[uint16]bool{}}
	for page := 0x60; page < 0x80; page++ {
		l.reads[page], l.writes[page] = true, true
	}
	for page := 0x80; page < 0x100; page++ {
		l.reads[page] = true
	}
	return l
}

// copied is a land with the same bytes, which was asked nothing yet.
func (l *land) copied() *land {
	c := *l
	c.asked, c.loads, c.stores = nil, nil, nil
	return &c
}

// tagOf is the tag of code at an address.
func tagOf(pc uint16) int {
	switch {
	case pc < 0x2000:
		return api.TagRam
	case pc < 0x8000:
		return api.TagWork
	}
	return int(pc-0x8000) / 0x2000
}

// window is the bytes from an address on to its window's end.
func (l *land) window(pc uint16) []byte {
	size := 0x2000
	if pc < 0x2000 {
		size = 0x800
	}
	var code []byte
	for i := int(pc); i < (int(pc)/size+1)*size; i++ {
		code = append(code, l.cells[cell(uint16(i))])
	}
	return code
}

// made is what Translate makes.
func made(t *testing.T, pc uint16, tag int, limit int, code ...uint8) api.Block {
	t.Helper()
	b, e := xlate.Translate(pc, tag, code, limit)
	if e != api.OK {
		t.Fatalf("P13.1: Translate($%04X, %d, % X, %d): error %d", pc, tag, code, limit, e)
	}
	return b
}

// blockAt is the block of the code that lies in a land.
func blockAt(t *testing.T, l *land, pc uint16, limit int) api.Block {
	t.Helper()
	return made(t, pc, tagOf(pc), limit, l.window(pc)...)
}

// inRam is RAM with code at an address.
func inRam(at uint16, code ...uint8) (ram [2048]uint8) {
	for i, v := range code {
		ram[(int(at)+i)%2048] = v
	}
	return ram
}

// evaluated is Eval of the block of the code that lies in RAM.
func evaluated(t *testing.T, ram [2048]uint8, r api.Regs, limit int) api.Outcome {
	t.Helper()
	b := made(t, r.PC, api.TagRam, limit, ram[r.PC%2048:]...)
	return xlate.Eval(b, r, 0x77, ram)
}

// short is an Outcome without its Ram.
func short(o api.Outcome) string {
	return fmt.Sprintf("%+v open $%02X cycles %d insts %d left %d", o.Regs, o.Open, o.Cycles, o.Insts, o.Left)
}

// outcome asks for an Outcome, its Ram left out.
func outcome(t *testing.T, what string, got, want api.Outcome) {
	t.Helper()
	got.Ram, want.Ram = [2048]uint8{}, [2048]uint8{}
	if got != want {
		t.Errorf("%s: %s, want %s", what, short(got), short(want))
	}
}

// sameBlock holds two blocks against each other, field by field.
func sameBlock(t *testing.T, what string, got, want api.Block) {
	t.Helper()
	if got.PC != want.PC || got.Tag != want.Tag || got.Bytes != want.Bytes || got.Insts != want.Insts || got.Least != want.Least || got.Most != want.Most {
		t.Fatalf("P13.2: %s: $%04X tag %d bytes % X insts %d cycles %d to %d, want $%04X tag %d bytes % X insts %d cycles %d to %d", what,
			got.PC, got.Tag, got.Bytes, got.Insts, got.Least, got.Most, want.PC, want.Tag, want.Bytes, want.Insts, want.Least, want.Most)
	}
	if !slices.Equal(got.Ops, want.Ops) {
		t.Fatalf("P13.3, P13.4: %s: % X:\n%+v\nwant\n%+v", what, got.Bytes, got.Ops, want.Ops)
	}
}

// isZero tells whether a block is the zero one.
func isZero(b api.Block) bool {
	return b.PC == 0 && b.Tag == 0 && b.Bytes == "" && b.Insts == 0 && b.Ops == nil && b.Least == 0 && b.Most == 0
}

// flagsOf is the Flags of a block's Alus, in order.
func flagsOf(b api.Block) []uint8 {
	var l []uint8
	for _, o := range b.Ops {
		if o.Kind == api.MicroAlu {
			l = append(l, o.Flags)
		}
	}
	return l
}

// codes is an instruction's bytes by its line of text.
func codes(t *testing.T, pc uint16, lines string) []uint8 {
	t.Helper()
	var l []uint8
	for line := range strings.SplitSeq(lines, ";") {
		code, e, _ := isa.Read(strings.TrimSpace(line), pc+uint16(len(l)))
		if e != api.OK {
			t.Fatalf("%q is no instruction: %d", line, e)
		}
		l = append(l, code...)
	}
	return l
}

// some picks one of a list.
func some[T any](r *rand.Rand, l ...T) T { return l[r.Intn(len(l))] }

// anyByte is a byte.
func anyByte(r *rand.Rand) uint8 { return uint8(r.Intn(256)) }

// anyRegs is registers at an address. Bits 4 and 5 of P may be anything.
func anyRegs(r *rand.Rand, pc uint16) api.Regs {
	return api.Regs{A: anyByte(r), X: some(r, anyByte(r), uint8(r.Intn(4))), Y: some(r, anyByte(r), uint8(r.Intn(4))), S: some(r, anyByte(r), 0, 1, 0xfe, 0xff), P: anyByte(r), PC: pc}
}

// lay fills bytes with what makes long blocks: few of its instructions may stand in none, and most addresses are RAM's.
func lay(r *rand.Rand, l []uint8) {
	for i := 0; i < len(l); i++ {
		l[i] = anyByte(r)
		for r.Intn(12) != 0 && slices.Contains([]api.Op{api.OpCLI, api.OpSEI, api.OpPLP, api.OpRTI, api.OpBRK, api.OpJAM}, isa.Decode(l[i]).Op) {
			l[i] = anyByte(r)
		}
		for n := isa.Decode(l[i]).Len; n > 1 && i+1 < len(l); n-- {
			i++
			l[i] = anyByte(r)
			if n == 2 && isa.Decode(l[max(i-2, 0)]).Len == 3 {
				l[i] = some(r, uint8(r.Intn(8)), uint8(r.Intn(32)), 0, 1, 2, anyByte(r))
			}
		}
	}
}

// storing lays code at an address that often stores on itself, or near itself.
func storing(r *rand.Rand, ram *[2048]uint8, pc uint16) {
	at := int(pc)
	lay := func(code ...uint8) {
		for _, v := range code {
			ram[at%2048] = v
			at++
		}
	}
	for range 4 + r.Intn(12) {
		to := pc&^0x1800 + uint16(r.Intn(60)) - 10
		switch r.Intn(6) {
		case 0, 1:
			lay(some[uint8](r, 0x8d, 0x8e, 0x8c, 0xee, 0x0e, 0x0f, 0x6f, 0xad), uint8(to), uint8(to>>8)&7+8*uint8(r.Intn(4)))
		case 2:
			lay(some[uint8](r, 0x9d, 0x99, 0xfe, 0x1b, 0xbd), uint8(to), uint8(to>>8)&7)
		case 3:
			lay(some[uint8](r, 0x48, 0x08, 0x68, 0xba, 0x9a))
		default:
			lay(some[uint8](r, 0xa9, 0xa2, 0xa0, 0x69, 0xe9, 0xc9), some[uint8](r, 0xea, 0xe8, anyByte(r), 0))
		}
	}
}

// filled is a land full of what may be code.
func filled(r *rand.Rand) *land {
	l := console()
	lay(r, l.cells[:0x800])
	lay(r, l.cells[0x6000:])
	return l
}

// anyPlace is an address where code may lie, often one near a window's end.
func anyPlace(r *rand.Rand) uint16 {
	return some(r, uint16(r.Intn(0x2000)), uint16(0x100+r.Intn(0x100)), 0x6000+uint16(r.Intn(0x2000)), 0x8000+uint16(r.Intn(0x8000)),
		uint16(0x800*(1+r.Intn(4)))-uint16(1+r.Intn(8)), uint16(0x2000*(4+r.Intn(5))-1-r.Intn(8)))
}

// lines is a text's lines; each must end with a line feed.
func lines(s string) []string {
	rest, ok := strings.CutSuffix(s, "\n")
	if !ok {
		return []string{"no line feed at the end: " + s}
	}
	return strings.Split(rest, "\n")
}

// lengthOf is how many bytes an opcode's instruction has.
func lengthOf(code uint8) int { return isa.Decode(code).Len }
