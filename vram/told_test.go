package vram_test

import (
	"tandem/api"
	"tandem/mapper"
)

// The chapter's words a second time: one byte at a time, T in its parts, and a table of which page stands behind which quarter.

// told is a valid memory with its board and the cartridge's CHR.
type told struct {
	api.Video                     // its T is not looked at while the parts stand
	down, tables, row, column int // T: 3, 2, 5 and 5 bits
	board                     api.Board
	rom                       []uint8
}

func open(v api.Video, b api.Board, chr []uint8) *told {
	x := &told{Video: v, board: b, rom: chr}
	x.split(int(v.T))
	return x
}

func (x *told) split(t int) {
	x.down, x.tables, x.row, x.column = t/4096, t/1024%4, t/32%32, t%32
}

func (x *told) whole() int {
	return ((x.down*4+x.tables)*32+x.row)*32 + x.column
}

func (x *told) shut() api.Video {
	v := x.Video
	v.T = uint16(x.whole())
	return v
}

// cell is where a byte is kept; nil: in the cartridge's CHR, or nowhere.
func (x *told) cell(addr int) *uint8 {
	addr %= 16384
	if addr < 8192 {
		if !x.board.ChrRam {
			return nil
		}
		return &x.Chr[mapper.ChrBank(x.board, addr/1024)*1024+addr%1024]
	}
	if addr < 16384-256 {
		pages := map[api.Mirror][4]int{
			api.Horizontal: {0, 0, 1, 1}, api.Vertical: {0, 1, 0, 1}, api.OneLow: {0, 0, 0, 0}, api.OneHigh: {1, 1, 1, 1}, api.FourPages: {0, 1, 2, 3},
		}
		page := pages[mapper.Mirror(x.board)][addr/1024%4]
		return &x.Nt[page*1024+addr%1024]
	}
	switch addr %= 32; addr {
	case 16, 20, 24, 28:
		return &x.Pal[addr-16]
	}
	return &x.Pal[addr]
}

func (x *told) get(addr int) uint8 {
	if c := x.cell(addr); c != nil {
		return *c
	}
	addr %= 16384
	at := mapper.ChrBank(x.board, addr/1024)*1024 + addr%1024
	if at >= len(x.rom) {
		return 0
	}
	return x.rom[at]
}

func (x *told) set(addr int, val uint8) {
	c := x.cell(addr)
	if c == nil {
		return
	}
	if addr%16384 >= 16384-256 {
		val %= 64
	}
	*c = val
}

// onward is how V goes on.
func (x *told) onward() {
	n := 1
	if x.Wide {
		n = 32
	}
	x.V = uint16((int(x.V) + n) % 32768)
}

func (x *told) read(reg int, status uint8) uint8 {
	switch reg {
	case 2:
		x.W = false
		x.Io = status/32*32 + x.Io%32
	case 4:
		x.Io = x.Oam[x.OamAt]
	case 7:
		at := int(x.V) % 16384
		if at < 0x3f00 {
			x.Io = x.Buf
			x.Buf = x.get(at)
		} else {
			colour := x.get(at)
			if x.Grey {
				colour = colour / 16 % 4 * 16
			}
			x.Io = x.Io/64*64 + colour
			x.Buf = x.get(at - 0x1000)
		}
		x.onward()
	}
	return x.Io
}

func (x *told) write(reg int, val uint8) {
	x.Io = val
	n := int(val)
	second := x.W
	switch reg {
	case 0:
		x.tables = n % 4
		x.Wide = n/4%2 == 1
	case 1:
		x.Grey = n%2 == 1
	case 3:
		x.OamAt = val
	case 4:
		if x.OamAt%4 == 2 {
			val = val/32*32 + val%4
		}
		x.Oam[x.OamAt] = val
		x.OamAt++
	case 5:
		if second {
			x.down, x.row = n%8, n/8
		} else {
			x.column, x.X = n/8, uint8(n%8)
		}
		x.W = !second
	case 6:
		if second {
			x.split(x.whole()/256*256 + n)
			x.V = uint16(x.whole())
		} else {
			x.split(n%64*256 + x.whole()%256)
		}
		x.W = !second
	case 7:
		x.set(int(x.V), val)
		x.onward()
	}
}
