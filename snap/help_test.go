package snap_test

import (
	"bytes"
	"fmt"
	"math/rand"
	"testing"

	"tandem/api"
	"tandem/cart"
	"tandem/interp"
	"tandem/mapper"
	"tandem/raster"
	"tandem/snap"
)

// Numbers of bytes that the chapter names: of a snapshot without WORK and CHR_, and of each of these.
const (
	small = 6688
	extra = 8204
)

// nrom is the cartridge of the examples.
func nrom() api.Cart { return api.Cart{PrgRam: 8192, Prg: make([]byte, api.PrgUnit)} }

// sized is a cartridge with so many units of PRG and CHR.
func sized(c api.Cart, prg, chr int) api.Cart {
	c.Prg, c.Chr = make([]byte, prg*api.PrgUnit), make([]byte, chr*api.ChrUnit)
	return c
}

// boards is cartridges of each board, with and without work RAM and CHR.
func boards() []api.Cart {
	return []api.Cart{
		nrom(),
		sized(api.Cart{Vert: true}, 1, 1),
		sized(api.Cart{Mapper: api.MMC1, PrgNv: 8192}, 16, 0),
		sized(api.Cart{Mapper: api.MMC1, Sub: 5, PrgRam: 1}, 2, 2),
		sized(api.Cart{Mapper: api.UxROM, Sub: 2, PrgRam: 8192}, 8, 0),
		sized(api.Cart{Mapper: api.CNROM, Sub: 2}, 2, 64),
		sized(api.Cart{Mapper: api.MMC3, PrgRam: 8192}, 8, 4),
		sized(api.Cart{Mapper: api.MMC3, Sub: 4, Four: true, PrgNv: 8192}, 64, 0),
		sized(api.Cart{Mapper: api.AxROM, Sub: 1, PrgRam: 8192}, 4, 0),
	}
}

// first is the state of a new machine.
func first(t testing.TB, c api.Cart) api.State {
	t.Helper()
	m, e := interp.New(c)
	if e != api.OK {
		t.Fatalf("interp.New of mapper %d: %d", c.Mapper, e)
	}
	return m.State()
}

// turned is the state of a new machine in which something is another.
func turned(t testing.TB, c api.Cart, turn func(s *api.State)) api.State {
	t.Helper()
	s := first(t, c)
	turn(&s)
	return s
}

// saves is the snapshot of a state that may be saved.
func saves(t testing.TB, what string, sum uint32, s api.State) []byte {
	t.Helper()
	data, e := snap.Save(sum, s)
	if e != api.OK {
		t.Fatalf("P16.2: %s: Save: %d", what, e)
	}
	return data
}

// loads asks for a state.
func loads(t testing.TB, what string, sum uint32, data []byte, want *api.State) {
	t.Helper()
	s, e, place := snap.Load(sum, data)
	if e != api.OK || place != 0 {
		t.Fatalf("P16.3: %s: Load: %d, %d", what, e, place)
	}
	same(t, what, &s, want)
}

// refused asks for an error and its place, and for no state.
func refused(t testing.TB, what string, sum uint32, data []byte, want api.Errno, at int) {
	t.Helper()
	s, e, place := snap.Load(sum, data)
	if e != want || place != at {
		t.Fatalf("P16.3: %s: Load: %d, %d, want %d, %d", what, e, place, want, at)
	}
	if s != (api.State{}) {
		t.Fatalf("P3: %s: a state with error %d", what, e)
	}
}

// same holds two states against each other.
func same(t testing.TB, what string, got, want *api.State) {
	t.Helper()
	if *got == *want {
		return
	}
	for _, l := range []struct {
		name      string
		got, want []uint8
	}{
		{"Ram", got.Mem.Ram[:], want.Mem.Ram[:]}, {"Work", got.Mem.Work[:], want.Mem.Work[:]}, {"Oam", got.Mem.Video.Oam[:], want.Mem.Video.Oam[:]},
		{"Nt", got.Mem.Video.Nt[:], want.Mem.Video.Nt[:]}, {"Pal", got.Mem.Video.Pal[:], want.Mem.Video.Pal[:]}, {"Chr", got.Mem.Video.Chr[:], want.Mem.Video.Chr[:]},
	} {
		for i := range l.got {
			if l.got[i] != l.want[i] {
				t.Fatalf("%s: %s[%#x] is %#x, want %#x", what, l.name, i, l.got[i], l.want[i])
			}
		}
	}
	t.Fatalf("%s: %s, want %s", what, registers(*got), registers(*want))
}

// registers tells a state without its memories.
func registers(s api.State) string {
	m := &s.Mem
	v := &m.Video
	return fmt.Sprintf("%+v %+v %+v %+v video %d %d %d %d %v %v %v %d %d %+v %+v open %d cycle %d line %v nmi %v",
		s.Cpu, m.Board, m.Clock, m.Raster, v.OamAt, v.V, v.T, v.X, v.W, v.Wide, v.Grey, v.Buf, v.Io, m.Pads, m.Dma, m.Open, m.Cycle, m.Line, m.Nmi)
}

// place is where a chunk lies in a snapshot.
type place struct {
	name     string
	at, body int // of its first byte, of its body's
	sum, end int // of its sum's first byte, of the one behind it
}

// places is where the chunks of a snapshot lie, by their lengths alone.
func places(data []byte) []place {
	list := []place{}
	for p := 6; p < len(data); {
		size := int(data[p+4]) | int(data[p+5])<<8
		list = append(list, place{string(data[p : p+4]), p, p + 8, p + 8 + size, p + 12 + size})
		p += 12 + size
	}
	return list
}

// placeOf is where the chunk of that name lies.
func placeOf(t testing.TB, data []byte, name string) place {
	t.Helper()
	for _, p := range places(data) {
		if p.name == name {
			return p
		}
	}
	t.Fatalf("P16.2: no chunk %s", name)
	return place{}
}

// with is a snapshot in which a byte is another.
func with(data []byte, at int, v uint8) []byte {
	l := bytes.Clone(data)
	l[at] = v
	return l
}

// mended is a snapshot in which the sum of each chunk is right.
func mended(data []byte) []byte {
	l := bytes.Clone(data)
	for _, p := range places(l) {
		sum := cart.Crc(l[p.at:p.sum])
		copy(l[p.sum:], []byte{byte(sum), byte(sum >> 8), byte(sum >> 16), byte(sum >> 24)})
	}
	return l
}

// chunk is a chunk with its sum.
func chunk(name string, body []byte) []byte {
	n := len(body)
	l := append([]byte(name), byte(n), byte(n>>8), byte(n>>16), byte(n>>24))
	l = append(l, body...)
	sum := cart.Crc(l)
	return append(l, byte(sum), byte(sum>>8), byte(sum>>16), byte(sum>>24))
}

// join is lists one behind the other.
func join(lists ...[]byte) []byte { return bytes.Join(lists, nil) }

// full is a snapshot with WORK and CHR_, and its sum and state.
func full(t testing.TB) (uint32, api.State, []byte) {
	t.Helper()
	s := anyState(rand.New(rand.NewSource(1600)), boards()[2])
	data := saves(t, "full", 0x89abcdef, s)
	if len(data) != small+2*extra {
		t.Fatalf("P16.2: a snapshot with WORK and CHR_ has %d bytes", len(data))
	}
	return 0x89abcdef, s, data
}

// some picks one of a list.
func some[T any](r *rand.Rand, l ...T) T { return l[r.Intn(len(l))] }

// flip is true or false.
func flip(r *rand.Rand) bool { return r.Intn(2) == 0 }

// anyByte is a byte.
func anyByte(r *rand.Rand) uint8 { return uint8(r.Intn(256)) }

// fill puts bytes as they come into a list.
func fill(r *rand.Rand, l []uint8) {
	for i := range l {
		l[i] = anyByte(r)
	}
}

// anyBoard is a board of a cartridge behind some writes and clocks, all of them ahead of that cycle.
func anyBoard(r *rand.Rand, c api.Cart, cycle int) api.Board {
	b, _ := mapper.New(c)
	if cycle < 100 {
		return b
	}
	for i := range r.Intn(40) {
		b = mapper.Write(b, uint16(0x8000+r.Intn(0x8000)), some(r, anyByte(r), uint8(r.Intn(8))), anyByte(r), cycle-100+2*i)
	}
	b.Epoch = some(r, b.Epoch, r.Int()>>1, api.Never)
	return mapper.Clock(b, r.Intn(300))
}

// anyClock is a valid clock.
func anyClock(r *rand.Rand) api.Clock {
	k := api.Clock{
		Latch: uint16(r.Intn(65536)), Count: uint16(r.Intn(65536)), Hold: anyByte(r), Ctl: uint8(r.Intn(32)), Flag: flip(r), Five: flip(r),
		Inhibit: flip(r), At: uint16(r.Intn(37282)), Wait: uint8(r.Intn(5)), Beats: uint8(r.Intn(64)),
	}
	k.Pre = uint16(r.Intn([]int{1, 8, 64, 256}[k.Ctl>>3]))
	k.Over = k.Flag && flip(r)
	k.Frame = !k.Inhibit && flip(r)
	return k
}

// anyRaster is a valid raster.
func anyRaster(r *rand.Rand) api.Raster {
	x := api.Raster{Line: some(r, r.Intn(262), 240, 241, 260, 261), Dot: some(r, r.Intn(341), 0, 1, 340), Odd: flip(r), Nmi: flip(r), Draw: flip(r)}
	at := x.Line*341 + x.Dot
	x.Vbl = at >= 241*341+1 && at <= 261*341 && flip(r)
	x.Hold = at == 241*341 && flip(r)
	return x
}

// anyVideo is a video memory that is valid with a board.
func anyVideo(r *rand.Rand, b api.Board) api.Video {
	v := api.Video{
		OamAt: anyByte(r), V: uint16(r.Intn(0x8000)), T: uint16(r.Intn(0x8000)), X: uint8(r.Intn(8)),
		W: flip(r), Wide: flip(r), Grey: flip(r), Buf: anyByte(r), Io: anyByte(r),
	}
	fill(r, v.Oam[:])
	for i := 2; i < 256; i += 4 {
		v.Oam[i] &= 0xe3
	}
	fill(r, v.Nt[:])
	for i := range v.Pal {
		v.Pal[i] = uint8(r.Intn(64))
	}
	v.Pal[16], v.Pal[20], v.Pal[24], v.Pal[28] = 0, 0, 0, 0
	if b.ChrRam {
		fill(r, v.Chr[:])
	}
	return v
}

// anyDma is a copying that may stand in a memory.
func anyDma(r *rand.Rand) api.Dma {
	if flip(r) {
		return api.Dma{}
	}
	d := api.Dma{On: true, Page: anyByte(r), Step: some(r, r.Intn(514), 0, 1, 2, 3, 512, 513)}
	if d.Step > 1 && d.Step%2 == 1 {
		d.Val = anyByte(r)
	}
	return d
}

// anyCpu is a valid CPU.
func anyCpu(r *rand.Rand, latch bool) api.Cpu {
	c := api.Cpu{Regs: api.Regs{A: anyByte(r), X: anyByte(r), Y: anyByte(r), S: anyByte(r), P: anyByte(r)&0xcf | 0x20, PC: uint16(r.Intn(0x10000))}}
	c.Take = some(r, api.TakeNone, api.TakeIrq, api.TakeNmi, api.TakeReset)
	if c.Take == api.TakeNmi && !latch {
		c.Take = api.TakeNone
	}
	c.Jam = c.Take == api.TakeNone && flip(r)
	return c
}

// anyState is a state that may be saved, full of bytes.
func anyState(r *rand.Rand, c api.Cart) api.State {
	s := api.State{}
	m := &s.Mem
	m.Cycle = some(r, 100+r.Intn(1000), 100000+r.Intn(1000000), 1<<40+r.Intn(1000), api.MaxCycle, api.EndCycle)
	m.Board, m.Clock, m.Raster, m.Dma = anyBoard(r, c, m.Cycle), anyClock(r), anyRaster(r), anyDma(r)
	m.Video, m.Open, m.Nmi, m.Line = anyVideo(r, m.Board), anyByte(r), flip(r), raster.Line(m.Raster)
	m.Pads = api.Pads{Strobe: flip(r), Held: [2]uint8{anyByte(r), anyByte(r)}, Shift: [2]uint8{anyByte(r), anyByte(r)}}
	fill(r, m.Ram[:])
	fill(r, m.Work[:])
	s.Cpu = anyCpu(r, m.Nmi)
	return s
}
