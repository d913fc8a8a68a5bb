package snap_test

import (
	"bytes"
	"encoding/binary"
	"hash/crc32"
	"reflect"

	"tandem/api"
	"tandem/bus"
)

// A second form of the package, by the library's means: a body is a struct that encoding/binary lays down, a truth a field that reflect finds.

type toldHead struct {
	Sum   uint32
	Cycle int64
}

type toldCpu struct {
	A, X, Y, S, P uint8
	PC            uint16
	Take          uint8
	Jam           bool
}

type toldBoard struct {
	Kind, Sub, Hard                 uint8
	Work                            bool
	Prg, Chr                        uint16
	ChrRam                          bool
	Shift, Ctrl, ChrA, ChrB, PrgR   uint8
	Last                            int64
	Latch, Sel                      uint8
	R                               [8]uint8
	Turn, Guard, IrqLatch, IrqCount uint8
	IrqLoad, IrqOn, Irq             bool
	Epoch                           int64
}

type toldRaster struct {
	Line, Dot                 uint16
	Odd, Vbl, Nmi, Draw, Hold bool
}

type toldVideo struct {
	Oam           [256]uint8
	OamAt         uint8
	Nt            [4096]uint8
	Pal           [32]uint8
	V, T          uint16
	X             uint8
	W, Wide, Grey bool
	Buf, Io       uint8
}

type toldDma struct {
	On   bool
	Page uint8
	Step uint16
	Val  uint8
}

type toldBus struct {
	Open      uint8
	Line, Nmi bool
}

// told is all bodies.
type told struct {
	Head   toldHead
	Cpu    toldCpu
	Ram    [2048]uint8
	Work   [8192]uint8
	Board  toldBoard
	Clock  api.Clock // its fields are of the lengths and in the order of the body
	Raster toldRaster
	Video  toldVideo
	Chr    [8192]uint8
	Pads   api.Pads // and these
	Dma    toldDma
	Bus    toldBus
	End    struct{}
}

// toldNames is the chunks' names, one for each field of told.
var toldNames = []string{"HEAD", "CPU_", "RAM_", "WORK", "BRD_", "CLK_", "RAS_", "VID_", "CHR_", "PAD_", "DMA_", "BUS_", "END_"}

func tell(sum uint32, s *api.State) *told {
	c, m := &s.Cpu, &s.Mem
	b, r, v := &m.Board, &m.Raster, &m.Video
	return &told{
		Head: toldHead{sum, int64(m.Cycle)},
		Cpu:  toldCpu{c.Regs.A, c.Regs.X, c.Regs.Y, c.Regs.S, c.Regs.P, c.Regs.PC, c.Take, c.Jam},
		Ram:  m.Ram, Work: m.Work, Clock: m.Clock, Chr: v.Chr, Pads: m.Pads,
		Board: toldBoard{
			uint8(b.Kind), uint8(b.Sub), uint8(b.Hard), b.Work, uint16(b.Prg), uint16(b.Chr), b.ChrRam, b.Shift, b.Ctrl, b.ChrA, b.ChrB, b.PrgR,
			int64(b.Last), b.Latch, b.Sel, b.R, b.Turn, b.Guard, b.IrqLatch, b.IrqCount, b.IrqLoad, b.IrqOn, b.Irq, int64(b.Epoch),
		},
		Raster: toldRaster{uint16(r.Line), uint16(r.Dot), r.Odd, r.Vbl, r.Nmi, r.Draw, r.Hold},
		Video:  toldVideo{v.Oam, v.OamAt, v.Nt, v.Pal, v.V, v.T, v.X, v.W, v.Wide, v.Grey, v.Buf, v.Io},
		Dma:    toldDma{m.Dma.On, m.Dma.Page, uint16(m.Dma.Step), m.Dma.Val},
		Bus:    toldBus{m.Open, m.Line, m.Nmi},
	}
}

// state is the state that it tells.
func (x *told) state() api.State {
	b, r, v := &x.Board, &x.Raster, &x.Video
	return api.State{
		Cpu: api.Cpu{Regs: api.Regs{A: x.Cpu.A, X: x.Cpu.X, Y: x.Cpu.Y, S: x.Cpu.S, P: x.Cpu.P, PC: x.Cpu.PC}, Take: x.Cpu.Take, Jam: x.Cpu.Jam},
		Mem: api.Mem{
			Ram: x.Ram, Work: x.Work, Clock: x.Clock, Pads: x.Pads, Open: x.Bus.Open, Cycle: int(x.Head.Cycle), Line: x.Bus.Line, Nmi: x.Bus.Nmi,
			Board: api.Board{
				Kind: int(b.Kind), Sub: int(b.Sub), Hard: api.Mirror(b.Hard), Work: b.Work, Prg: int(b.Prg), Chr: int(b.Chr), ChrRam: b.ChrRam,
				Shift: b.Shift, Ctrl: b.Ctrl, ChrA: b.ChrA, ChrB: b.ChrB, PrgR: b.PrgR, Last: int(b.Last), Latch: b.Latch, Sel: b.Sel, R: b.R, Turn: b.Turn,
				Guard: b.Guard, IrqLatch: b.IrqLatch, IrqCount: b.IrqCount, IrqLoad: b.IrqLoad, IrqOn: b.IrqOn, Irq: b.Irq, Epoch: int(b.Epoch),
			},
			Raster: api.Raster{Line: int(r.Line), Dot: int(r.Dot), Odd: r.Odd, Vbl: r.Vbl, Nmi: r.Nmi, Draw: r.Draw, Hold: r.Hold},
			Video: api.Video{
				Oam: v.Oam, OamAt: v.OamAt, Nt: v.Nt, Pal: v.Pal, Chr: x.Chr, V: v.V, T: v.T, X: v.X, W: v.W, Wide: v.Wide, Grey: v.Grey, Buf: v.Buf, Io: v.Io,
			},
			Dma: api.Dma{On: x.Dma.On, Page: x.Dma.Page, Step: int(x.Dma.Step), Val: x.Dma.Val},
		},
	}
}

// rare tells whether a chunk may be left out.
func rare(name string) bool { return name == "WORK" || name == "CHR_" }

// toldBytes is the snapshot of any state, whether it may be saved or not.
func toldBytes(sum uint32, s *api.State) []byte {
	out := []byte{0x54, 0x4e, 0x44, 0x4d, 0x1a, 1}
	x := reflect.ValueOf(tell(sum, s)).Elem()
	for i, name := range toldNames {
		body, err := binary.Append(nil, binary.LittleEndian, x.Field(i).Interface())
		if err != nil {
			panic(err)
		}
		if !rare(name) || len(bytes.Trim(body, "\x00")) > 0 {
			out = append(out, chunk(name, body)...)
		}
	}
	return out
}

// truthsOf is the places in a body that are truths.
func truthsOf(t reflect.Type, at int) []int {
	list := []int{}
	if t.Kind() == reflect.Bool {
		list = append(list, at)
	}
	if t.Kind() == reflect.Struct {
		for i := range t.NumField() {
			f := t.Field(i).Type
			list = append(list, truthsOf(f, at)...)
			at += binary.Size(reflect.Zero(f).Interface())
		}
	}
	return list
}

// toldLoad is what Load must answer.
func toldLoad(sum uint32, data []byte) (api.State, api.Errno, int) {
	if len(data) > 65536 {
		return api.State{}, api.ErrLong, 0
	}
	for i, b := range []byte{0x54, 0x4e, 0x44, 0x4d, 0x1a, 1} {
		if i == len(data) {
			return api.State{}, api.ErrShort, i
		}
		if data[i] != b {
			return api.State{}, map[bool]api.Errno{false: api.ErrMagic, true: api.ErrVersion}[i == 5], i
		}
	}
	x, wrong, p := &told{}, 0, 6
	all := reflect.ValueOf(x).Elem()
	for i, name := range toldNames {
		rest := data[p:]
		if len(rest) < 8 {
			return api.State{}, api.ErrShort, len(data)
		}
		field := all.Field(i)
		size := binary.Size(field.Interface())
		if rare(name) && string(rest[:4]) == toldNames[i+1] {
			continue
		}
		if string(rest[:4]) != name {
			return api.State{}, api.ErrChunk, p
		}
		if binary.LittleEndian.Uint32(rest[4:]) != uint32(size) {
			return api.State{}, api.ErrWeight, p + 4
		}
		if len(rest) < 12+size {
			return api.State{}, api.ErrShort, len(data)
		}
		if crc32.ChecksumIEEE(rest[:8+size]) != binary.LittleEndian.Uint32(rest[8+size:]) {
			return api.State{}, api.ErrSum, p + 8 + size
		}
		body := rest[8 : 8+size]
		if rare(name) && bytes.Count(body, []byte{0}) == size {
			return api.State{}, api.ErrChunk, p
		}
		for _, at := range truthsOf(field.Type(), 0) {
			if body[at] > 1 && wrong == 0 {
				wrong = p + 8 + at
			}
		}
		if _, err := binary.Decode(body, binary.LittleEndian, field.Addr().Interface()); err != nil {
			panic(err)
		}
		p += 12 + size
	}
	s := x.state()
	switch {
	case p < len(data):
		return api.State{}, api.ErrTail, p
	case wrong > 0:
		return api.State{}, api.ErrReserved, wrong
	case x.Head.Sum != sum:
		return api.State{}, api.ErrOther, 14
	case toldCheck(&s) != api.OK:
		return api.State{}, api.ErrState, 0
	}
	return s, api.OK, 0
}

// zeros is PRG and CHR enough for every board.
var zeros = make([]byte, api.MaxPrg)

// cartOf is a cartridge that makes such a board, if one does.
func cartOf(b api.Board) api.Cart {
	c := api.Cart{Mapper: b.Kind, Sub: b.Sub, Vert: b.Hard == api.Vertical, Four: b.Hard == api.FourPages}
	if b.Work {
		c.PrgRam = 8192
	}
	if b.Prg > 0 && b.Prg <= 128 {
		c.Prg = zeros[:b.Prg*8192]
	}
	if !b.ChrRam && b.Chr > 0 && b.Chr <= 512 {
		c.Chr = zeros[:b.Chr*1024]
	}
	return c
}

// toldCheck is what Check must answer: whether the state is valid for the one kind of cartridge that has such a board.
func toldCheck(s *api.State) api.Errno {
	c := &s.Cpu
	wrong := c.Regs.P>>4&3 != 2 || c.Take > 3 || c.Jam && c.Take > 0 || c.Take == 2 && !s.Mem.Nmi
	if wrong || !bus.Valid(cartOf(s.Mem.Board), s.Mem) {
		return api.ErrState
	}
	return api.OK
}
