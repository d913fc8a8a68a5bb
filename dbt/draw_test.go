package dbt_test

import (
	"math/rand"

	"tandem/api"
	"tandem/isa"
	"tandem/mapper"
	"tandem/raster"
)

// Drawn cartridges and states, full of code that goes on for long.

// anyBoard is a board behind some writes, all of them ahead of that cycle.
func anyBoard(r *rand.Rand, c api.Cart, cycle int) api.Board {
	b, _ := mapper.New(c)
	if cycle < 100 {
		return b
	}
	for i := range r.Intn(40) {
		b = mapper.Write(b, uint16(0x8000+r.Intn(0x8000)), some(r, anyByte(r), uint8(r.Intn(8))), anyByte(r), cycle-100+2*i)
	}
	return mapper.Clock(b, r.Intn(300))
}

// anyClock is a valid clock that may soon ask.
func anyClock(r *rand.Rand) api.Clock {
	k := api.Clock{
		Latch: uint16(some(r, r.Intn(65536), r.Intn(1000))), Count: uint16(some(r, r.Intn(65536), r.Intn(100))), Hold: anyByte(r),
		Ctl: uint8(r.Intn(32)), Flag: r.Intn(8) == 0, Five: flip(r), Inhibit: flip(r), At: uint16(some(r, r.Intn(37282), 29700+r.Intn(130))), Wait: uint8(r.Intn(5)),
	}
	k.Pre = uint16(r.Intn([]int{1, 8, 64, 256}[k.Ctl>>3]))
	return k
}

// anyRaster is a valid raster, often one near the vertical blank.
func anyRaster(r *rand.Rand) api.Raster {
	x := api.Raster{Line: some(r, r.Intn(262), 239, 240, 260, 261), Dot: r.Intn(341), Odd: flip(r), Nmi: flip(r), Draw: flip(r)}
	at := x.Line*341 + x.Dot
	x.Vbl = at >= 241*341+1 && at <= 261*341 && flip(r)
	return x
}

// anyCpu is a valid CPU, most often with code at its PC.
func anyCpu(r *rand.Rand, latch bool) api.Cpu {
	pc := some(r, 0x8000+r.Intn(0x8000), 0x0200+r.Intn(0x600), 0x0000+r.Intn(0x2000), 0x6000+r.Intn(0x2000), 0x8000+r.Intn(0x8000), 0x0200+r.Intn(0x600), 0x6000+r.Intn(0x2000), r.Intn(0x10000))
	c := api.Cpu{Regs: api.Regs{A: anyByte(r), X: anyByte(r), Y: anyByte(r), S: anyByte(r), P: anyByte(r)&0xcf | 0x20, PC: uint16(pc)}}
	c.Take = some(r, 0, 0, 0, 0, 0, 1, 3, api.TakeNmi)
	if c.Take == api.TakeNmi && !latch {
		c.Take = api.TakeNone
	}
	c.Jam = c.Take == api.TakeNone && r.Intn(32) == 0
	return c
}

// anyState is a state that is valid for a cartridge.
func anyState(r *rand.Rand, c api.Cart) api.State {
	s := api.State{}
	m := &s.Mem
	m.Cycle = some(r, 0, 1, r.Intn(1000), 100000+r.Intn(1000000), 1<<40+r.Intn(1000))
	m.Board, m.Clock, m.Raster, m.Open, m.Nmi = anyBoard(r, c, m.Cycle), anyClock(r), anyRaster(r), anyByte(r), r.Intn(8) == 0
	m.Line = raster.Line(m.Raster)
	m.Pads = api.Pads{Strobe: flip(r), Held: [2]uint8{anyByte(r), anyByte(r)}, Shift: [2]uint8{anyByte(r), anyByte(r)}}
	if r.Intn(16) == 0 {
		m.Dma = api.Dma{On: true, Page: anyByte(r), Step: some(r, 0, 1, 2*r.Intn(257))}
	}
	lay(r, m.Ram[:], 0)
	lay(r, m.Work[:], 0x6000)
	s.Cpu = anyCpu(r, m.Nmi)
	return s
}

// Where drawn code leads and what it touches: some of its own code among it.
func anyTarget(r *rand.Rand) uint16 {
	return uint16(some(r, 0x8000+r.Intn(0x8000), 0x8000+r.Intn(0x8000), 0x0200+r.Intn(0x600), 0x0000+r.Intn(0x200), 0x1200+r.Intn(0x600), 0x6000+r.Intn(0x2000), 0x6000+r.Intn(0x2000)))
}

func anyData(r *rand.Rand) uint16 {
	return uint16(some(r,
		r.Intn(0x200), 0x200+r.Intn(0x600), 0x200+r.Intn(0x600), 0x800+r.Intn(0x1800), 0x6000+r.Intn(0x2000), 0x6000+r.Intn(0x2000), 0x8000+r.Intn(0x8000),
		0x8000+r.Intn(0x8000), 0x2000+r.Intn(8), 0x4015+r.Intn(7), 0x1fff, 0x20ff, 0x5fff, 0x7fff, r.Intn(0x10000)))
}

// lay fills a list, which lies at an address, with instructions: few jam, most loops come to an end, and many touch code that lies near.
func lay(r *rand.Rand, l []uint8, base int) {
	for i := 0; i < len(l); {
		code := anyByte(r)
		in := isa.Decode(code)
		switch {
		case in.Kind == api.KindJam && r.Intn(100) > 0, in.Kind == api.KindBreak && r.Intn(4) > 0, in.Op == api.OpRTI && r.Intn(4) > 0:
			continue
		}
		l[i] = code
		near := uint16(base + i + r.Intn(60) - 20)
		operand := some(r, anyData(r), near)
		switch in.Kind {
		case api.KindJump, api.KindCall:
			operand = some(r, anyTarget(r), uint16(base+r.Intn(min(len(l), 0x8000))), near)
		case api.KindBranch:
			operand = uint16(uint8(r.Intn(60) - 12))
		}
		if in.Len == 2 && in.Kind != api.KindBranch {
			operand = some(r, uint16(anyByte(r)), near)
		}
		for k := 1; k < in.Len && i+k < len(l); k++ {
			l[i+k] = uint8(operand >> (8 * (k - 1)))
		}
		i += in.Len
	}
}

// filled is a cartridge with so many units of PRG and CHR, full of code.
func filled(c api.Cart, prg, chr int) api.Cart {
	r := rand.New(rand.NewSource(int64(1500 + 100*c.Mapper + c.Sub + prg)))
	c.Prg, c.Chr = make([]byte, prg*api.PrgUnit), make([]byte, chr*api.ChrUnit)
	lay(r, c.Prg, 0x8000)
	for i := range c.Chr {
		c.Chr[i] = anyByte(r)
	}
	for bank := api.Bank8; bank <= len(c.Prg); bank += api.Bank8 {
		for v := bank - 6; v < bank; v += 2 {
			c.Prg[v], c.Prg[v+1] = anyByte(r), 0x80+uint8(r.Intn(128))
		}
	}
	return c
}

// carts has each board.
func carts() []api.Cart {
	return []api.Cart{
		filled(api.Cart{PrgRam: 8192}, 2, 0),
		filled(api.Cart{Vert: true}, 1, 1),
		filled(api.Cart{Mapper: api.MMC1, PrgNv: 8192}, 16, 0),
		filled(api.Cart{Mapper: api.MMC1, Sub: 5, PrgRam: 1}, 2, 2),
		filled(api.Cart{Mapper: api.UxROM, Sub: 2, PrgRam: 8192}, 8, 0),
		filled(api.Cart{Mapper: api.CNROM, Sub: 2}, 2, 8),
		filled(api.Cart{Mapper: api.MMC3, PrgRam: 8192}, 8, 4),
		filled(api.Cart{Mapper: api.MMC3, Sub: 4, Four: true, PrgNv: 8192}, 2, 0),
		filled(api.Cart{Mapper: api.AxROM, Sub: 1, PrgRam: 8192}, 4, 0),
	}
}

// anySize and anyLimit are sizes of caches and of blocks.
func anySize(r *rand.Rand) int {
	return some(r, 1, 2, 3, 1+r.Intn(16), 16, 64, 256, 1+r.Intn(1000), 4096, api.MaxCache)
}

func anyLimit(r *rand.Rand) int { return some(r, 1, 2, 3, 5, 8, 1+r.Intn(64), api.MaxLimit) }

// anyLeft is what may be left of a budget.
func anyLeft(r *rand.Rand) int {
	return some(r, 1, 2, 3, 5, 7, 8, r.Intn(30), r.Intn(100), 100, 1000, api.Far, 1<<63-1, 1<<63-1, 1<<63-1, -r.Intn(3))
}
