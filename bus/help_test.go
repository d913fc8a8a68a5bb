package bus_test

import (
	"fmt"
	"math/rand"
	"testing"

	"tandem/api"
	"tandem/bus"
	"tandem/mapper"
	"tandem/raster"
)

// nrom is the examples' cartridge.
func nrom() api.Cart {
	c := api.Cart{PrgRam: 8192, Prg: make([]byte, 32768)}
	for i := range c.Prg {
		c.Prg[i] = byte(i % 251)
	}
	return c
}

// filled is a cartridge with so many units of PRG and CHR, whose bytes tell their places.
func filled(c api.Cart, prg, chr int) api.Cart {
	c.Prg, c.Chr = make([]byte, prg*api.PrgUnit), make([]byte, chr*api.ChrUnit)
	for i := range c.Prg {
		c.Prg[i] = byte(i%251 + i/8192*7)
	}
	for i := range c.Chr {
		c.Chr[i] = byte(1 + i%241 + i/1024*3)
	}
	return c
}

// mmc3 is a cartridge whose board has a counter of scanlines, and all modes of work RAM.
func mmc3() api.Cart {
	return filled(api.Cart{Mapper: api.MMC3, PrgRam: 8192}, 8, 4)
}

// carts has each board, with and without work RAM, CHR and bus conflicts.
func carts() []api.Cart {
	return []api.Cart{
		nrom(),
		filled(api.Cart{Vert: true}, 1, 1),
		filled(api.Cart{Mapper: api.MMC1, PrgNv: 8192}, 16, 0),
		filled(api.Cart{Mapper: api.MMC1, PrgRam: 8192}, 64, 4),
		filled(api.Cart{Mapper: api.MMC1, Sub: 5, PrgRam: 1}, 2, 2),
		filled(api.Cart{Mapper: api.UxROM, Sub: 2, PrgRam: 8192}, 8, 0),
		filled(api.Cart{Mapper: api.CNROM, Sub: 2}, 2, 8),
		mmc3(),
		filled(api.Cart{Mapper: api.MMC3, Sub: 4, Four: true, PrgNv: 8192}, 2, 0),
		filled(api.Cart{Mapper: api.MMC3}, 4, 1),
		filled(api.Cart{Mapper: api.AxROM, Sub: 1, PrgRam: 8192}, 4, 0),
	}
}

// fresh is the bus of a cartridge when the machine begins.
func fresh(t *testing.T, c api.Cart) *bus.Bus {
	t.Helper()
	b, e := bus.New(c)
	if e != api.OK || b == nil {
		t.Fatalf("P10.1: New of mapper %d/%d: %v, %d", c.Mapper, c.Sub, b, e)
	}
	return b
}

// from is a bus that goes on from a memory.
func from(t *testing.T, c api.Cart, m api.Mem) *bus.Bus {
	t.Helper()
	b, e := bus.From(c, m)
	if e != api.OK || b == nil {
		t.Fatalf("P10.3: From of mapper %d/%d: %d", c.Mapper, c.Sub, e)
	}
	return b
}

// turned is a bus that goes on from a new memory in which something is another.
func turned(t *testing.T, c api.Cart, turn func(m *api.Mem)) *bus.Bus {
	t.Helper()
	m := fresh(t, c).Mem()
	turn(&m)
	m.Line = raster.Line(m.Raster)
	return from(t, c, m)
}

// differ tells the first thing in which two memories are not the same.
func differ(got, want api.Mem) string {
	for _, l := range []struct {
		name      string
		got, want []uint8
	}{
		{"Ram", got.Ram[:], want.Ram[:]}, {"Work", got.Work[:], want.Work[:]},
		{"Video.Oam", got.Video.Oam[:], want.Video.Oam[:]}, {"Video.Nt", got.Video.Nt[:], want.Video.Nt[:]},
		{"Video.Pal", got.Video.Pal[:], want.Video.Pal[:]}, {"Video.Chr", got.Video.Chr[:], want.Video.Chr[:]},
	} {
		for i := range l.got {
			if l.got[i] != l.want[i] {
				return fmt.Sprintf("%s[%#x] is %#x, want %#x", l.name, i, l.got[i], l.want[i])
			}
		}
	}
	for _, f := range []struct {
		name      string
		got, want any
	}{
		{"Board", got.Board, want.Board}, {"Clock", got.Clock, want.Clock}, {"Raster", got.Raster, want.Raster},
		{"Pads", got.Pads, want.Pads}, {"Dma", got.Dma, want.Dma}, {"Open", got.Open, want.Open},
		{"Cycle", got.Cycle, want.Cycle}, {"Line", got.Line, want.Line}, {"Nmi", got.Nmi, want.Nmi},
		{"Video's registers", registers(got.Video), registers(want.Video)},
	} {
		if f.got != f.want {
			return fmt.Sprintf("%s is %+v, want %+v", f.name, f.got, f.want)
		}
	}
	return "?"
}

// registers is a video memory without its lists.
func registers(v api.Video) api.Video {
	v.Oam, v.Nt, v.Pal, v.Chr = [256]uint8{}, [4096]uint8{}, [32]uint8{}, [8192]uint8{}
	return v
}

// same holds two memories against each other.
func same(t *testing.T, what string, got, want api.Mem) {
	t.Helper()
	if got != want {
		t.Errorf("%s: %s", what, differ(got, want))
	}
}

// reads asks for one read.
func reads(t *testing.T, what string, b *bus.Bus, addr uint16, want uint8) {
	t.Helper()
	if got := b.Read(addr); got != want {
		t.Errorf("%s: Read(%#x) = %#x, want %#x", what, addr, got, want)
	}
}

// writes is pairs of an address and a value, written one behind the other.
func writes(b *bus.Bus, l ...int) {
	for i := 0; i+1 < len(l); i += 2 {
		b.Write(uint16(l[i]), uint8(l[i+1]))
	}
}

// polled asks for what Poll tells.
func polled(t *testing.T, what string, b *bus.Bus, nmi, irq bool) {
	t.Helper()
	if n, i := b.Poll(); n != nmi || i != irq {
		t.Errorf("%s: Poll() = %v, %v, want %v, %v", what, n, i, nmi, irq)
	}
}

// horizon asks for what Horizon tells.
func horizon(t *testing.T, what string, b *bus.Bus, want int) {
	t.Helper()
	if got := b.Horizon(); got != want {
		t.Errorf("P10.9: %s: Horizon() = %d, want %d", what, got, want)
	}
}

// The first and the last address of each row of both tables, of each window, and of mirrors.
var edges = []uint16{
	0x0000, 0x0001, 0x07ff, 0x0800, 0x0801, 0x0fff, 0x1000, 0x17ff, 0x1800, 0x1fff,
	0x2000, 0x2001, 0x2002, 0x2003, 0x2004, 0x2005, 0x2006, 0x2007, 0x2008, 0x200a, 0x2ffc, 0x3000, 0x3ff9, 0x3ffa, 0x3fff,
	0x4000, 0x4001, 0x4013, 0x4014, 0x4015, 0x4016, 0x4017, 0x4018, 0x4019, 0x401a, 0x401b, 0x401c, 0x401d, 0x4fff, 0x5000, 0x5fff,
	0x6000, 0x6001, 0x7000, 0x7fff,
	0x8000, 0x8001, 0x9fff, 0xa000, 0xa001, 0xbfff, 0xc000, 0xc001, 0xdfff, 0xe000, 0xe001, 0xfffa, 0xffff,
}

// some picks one of a list.
func some[T any](r *rand.Rand, l ...T) T { return l[r.Intn(len(l))] }

// anyByte is a byte.
func anyByte(r *rand.Rand) uint8 { return uint8(r.Intn(256)) }

// flip is true or false.
func flip(r *rand.Rand) bool { return r.Intn(2) == 0 }

// fill puts bytes as they come into a list, none of them 0.
func fill(r *rand.Rand, l []uint8) {
	for i := range l {
		l[i] = uint8(1 + r.Intn(255))
	}
}

// anyBoard is a board of a cartridge behind some writes and clocks, all of them ahead of that cycle.
func anyBoard(r *rand.Rand, c api.Cart, cycle int) api.Board {
	b, _ := mapper.New(c)
	if cycle < 100 {
		return b
	}
	for i := range r.Intn(40) {
		v := some(r, anyByte(r), uint8(r.Intn(8)))
		b = mapper.Write(b, uint16(0x8000+r.Intn(0x8000)), v, anyByte(r), cycle-100+2*i)
	}
	return mapper.Clock(b, r.Intn(300))
}

// anyClock is a valid clock.
func anyClock(r *rand.Rand) api.Clock {
	k := api.Clock{
		Latch: uint16(some(r, r.Intn(65536), r.Intn(40), 0)), Count: uint16(some(r, r.Intn(65536), r.Intn(40), 0)),
		Hold: anyByte(r), Ctl: uint8(r.Intn(32)), Flag: flip(r), Five: r.Intn(4) == 0, Inhibit: flip(r),
		At: uint16(some(r, r.Intn(37282), 29820+r.Intn(10), 37275+r.Intn(7))), Wait: uint8(some(r, 0, r.Intn(5))), Beats: uint8(r.Intn(64)),
	}
	k.Pre = uint16(r.Intn([]int{1, 8, 64, 256}[k.Ctl>>3]))
	k.Over = k.Flag && flip(r)
	k.Frame = !k.Inhibit && r.Intn(4) == 0
	return k
}

// anyRaster is a valid raster.
func anyRaster(r *rand.Rand) api.Raster {
	x := api.Raster{Line: some(r, r.Intn(262), 240, 241, 260, 261, 0), Dot: some(r, r.Intn(341), 0, 1, 259, 338, 340), Odd: flip(r), Nmi: flip(r), Draw: flip(r)}
	at := x.Line*341 + x.Dot
	x.Vbl = at >= 241*341+1 && at <= 261*341 && flip(r)
	x.Hold = at == 241*341 && flip(r)
	return x
}

// anyVideo is a video memory that is valid with a board, full of bytes.
func anyVideo(r *rand.Rand, b api.Board) api.Video {
	v := api.Video{
		OamAt: anyByte(r), V: uint16(r.Intn(0x8000)), T: uint16(r.Intn(0x8000)), X: uint8(r.Intn(8)),
		W: flip(r), Wide: flip(r), Grey: flip(r), Buf: anyByte(r), Io: anyByte(r),
	}
	fill(r, v.Oam[:])
	for i := 2; i < 256; i += 4 {
		v.Oam[i] &= 0xe3
	}
	fill(r, v.Nt[:])
	for i := range v.Pal {
		v.Pal[i] = uint8(r.Intn(64))
	}
	v.Pal[16], v.Pal[20], v.Pal[24], v.Pal[28] = 0, 0, 0, 0
	if b.ChrRam {
		fill(r, v.Chr[:])
	}
	return v
}

// anyDma is a copying that may stand in a memory.
func anyDma(r *rand.Rand) api.Dma {
	if flip(r) {
		return api.Dma{}
	}
	d := api.Dma{On: true, Page: some(r, anyByte(r), 0x02, 0x20, 0x40, 0x60, 0x80), Step: some(r, r.Intn(514), 0, 1, 2, 3, 512, 513)}
	if d.Step > 1 && d.Step%2 == 1 {
		d.Val = anyByte(r)
	}
	return d
}

// anyMem is a memory that is valid with a cartridge, full of bytes.
func anyMem(r *rand.Rand, c api.Cart) api.Mem {
	m := api.Mem{
		Cycle: some(r, 0, 1, r.Intn(1000), 100000+r.Intn(1000000), 1<<40+r.Intn(1000)),
		Clock: anyClock(r), Raster: anyRaster(r), Dma: anyDma(r), Open: anyByte(r), Nmi: flip(r),
		Pads: api.Pads{Strobe: flip(r), Held: [2]uint8{anyByte(r), anyByte(r)}, Shift: [2]uint8{anyByte(r), anyByte(r)}},
	}
	m.Board = anyBoard(r, c, m.Cycle)
	m.Video = anyVideo(r, m.Board)
	m.Line = raster.Line(m.Raster)
	fill(r, m.Ram[:])
	fill(r, m.Work[:])
	return m
}
