package bus_test

import (
	"tandem/api"
	"tandem/bus"
	"tandem/mapper"
	"tandem/pads"
	"tandem/raster"
	"tandem/timer"
	"tandem/vram"
)

// The chapter's words a second time: rows of a table, one dot and one cycle at a time, and lists that keep everything.

// told is a machine without its CPU.
type told struct {
	api.Mem
	cart   api.Cart
	log    []api.Access
	stores []int
}

// tell is the machine of a cartridge with a valid memory.
func tell(c api.Cart, m api.Mem) *told {
	return &told{Mem: m, cart: c}
}

// rows is what lies where, for a read and for a write.
var rows = []struct {
	from, to    int
	read, write string
}{
	{0x0000, 0x1fff, "ram", "ram"},
	{0x2000, 0x3fff, "video", "video"},
	{0x4000, 0x4013, "open", ""},
	{0x4014, 0x4014, "open", "dma"},
	{0x4015, 0x4015, "clock", ""},
	{0x4016, 0x4016, "pad 0", "strobe"},
	{0x4017, 0x4017, "pad 1", "clock"},
	{0x4018, 0x401b, "clock", "clock"},
	{0x401c, 0x5fff, "open", ""},
	{0x6000, 0x7fff, "work", "work"},
	{0x8000, 0xffff, "prg", "board"},
}

// at is what lies at an address.
func at(addr uint16) (read, write string) {
	for _, r := range rows {
		if int(addr) >= r.from && int(addr) <= r.to {
			return r.read, r.write
		}
	}
	return "", ""
}

func (x *told) prg(addr uint16) uint8 {
	bank := mapper.Bank(x.Board, int(addr)/8192-4)
	return x.cart.Prg[8192*bank+int(addr)%8192]
}

// look is what a read gives, and it does what the read does, but for the cycle's end.
func (x *told) look(addr uint16) uint8 {
	switch where, _ := at(addr); where {
	case "ram":
		return x.Ram[int(addr)%2048]
	case "video":
		var v, status uint8
		if addr%8 == 2 {
			status, x.Raster = raster.Status(x.Raster)
		}
		v, x.Video = vram.Read(x.Video, x.Board, x.cart.Chr, int(addr)%8, status)
		return v
	case "clock":
		v, mask, next := timer.Read(x.Clock, addr)
		x.Clock = next
		return v&mask + x.Open&(255-mask)
	case "pad 0", "pad 1":
		v, next := pads.Read(x.Pads, int(where[4]-'0'))
		x.Pads = next
		return v + x.Open/32*32
	case "work":
		if mapper.RamMode(x.Board) != 0 {
			return x.Work[addr-0x6000]
		}
	case "prg":
		return x.prg(addr)
	}
	return x.Open
}

// put does what a write does, but for the cycle's end.
func (x *told) put(addr uint16, v uint8) {
	switch _, where := at(addr); where {
	case "ram":
		x.Ram[int(addr)%2048] = v
		x.stores = append(x.stores, int(addr)%2048)
	case "video":
		x.Video = vram.Write(x.Video, x.Board, int(addr)%8, v)
		if addr%8 == 0 {
			x.Raster = raster.Ctrl(x.Raster, v)
		}
		if addr%8 == 1 {
			x.Raster = raster.Mask(x.Raster, v)
		}
	case "dma":
		x.Dma.On, x.Dma.Page, x.Dma.Step, x.Dma.Val = true, v, 0, 0
	case "strobe":
		x.Pads = pads.Write(x.Pads, v)
	case "clock":
		x.Clock = timer.Write(x.Clock, addr, v, x.Cycle)
	case "work":
		if mapper.RamMode(x.Board) == 2 {
			x.Work[addr-0x6000] = v
			x.stores = append(x.stores, 2048+int(addr)-0x6000)
		}
	case "board":
		x.Board = mapper.Write(x.Board, addr, v, x.prg(addr), x.Cycle)
	}
}

// end is the rest of a cycle, dot by dot.
func (x *told) end() {
	for range 3 {
		next, clock := raster.Dot(x.Raster)
		x.Raster = next
		if clock {
			x.Board = mapper.Clock(x.Board, 1)
		}
	}
	x.Clock = timer.Tick(x.Clock)
	x.Cycle++
	high := x.Raster.Vbl && x.Raster.Nmi
	if high && !x.Line {
		x.Nmi = true
	}
	x.Line = high
}

func (x *told) access(addr uint16, v uint8, write bool) {
	if addr >= 0x2000 && addr < 0x6000 || addr >= 0x8000 && write {
		x.log = append(x.log, api.Access{Cycle: x.Cycle, Addr: addr, Val: v, Write: write})
	}
	x.Open = v
	x.end()
}

func (x *told) Read(addr uint16) uint8 {
	if x.Cycle == api.EndCycle {
		return 0
	}
	v := x.look(addr)
	x.access(addr, v, false)
	return v
}

func (x *told) Write(addr uint16, v uint8) {
	if x.Cycle == api.EndCycle {
		return
	}
	x.put(addr, v)
	x.access(addr, v, true)
}

func (x *told) Peek(addr uint16) uint8 {
	y := *x
	return y.look(addr)
}

func (x *told) Idle(n int) {
	if n > api.EndCycle-x.Cycle {
		return
	}
	for range max(n, 0) {
		x.end()
	}
}

func (x *told) Settle(n int, open uint8) {
	was := x.Cycle
	x.Idle(n)
	if x.Cycle != was {
		x.Open = open
	}
}

func (x *told) Poll() (bool, bool) {
	return x.Nmi, x.Board.Irq || timer.Irq(x.Clock)
}

// Horizon goes on cycle by cycle, up to a bound.
func (x *told) Horizon(bound int) int {
	y := *x
	nmi, irq := y.Poll()
	for n := range bound {
		y.end()
		if a, b := y.Poll(); a != nmi || b != irq {
			return n
		}
	}
	return bound
}

func (x *told) DmaStep(pc uint16) api.Access {
	if !x.Dma.On || x.Cycle == api.EndCycle {
		return api.Access{}
	}
	now := api.Access{Cycle: x.Cycle, Addr: pc}
	step := x.Dma.Step
	switch {
	case step == 0:
		now.Val = x.Read(pc)
		x.Dma.Step = 2 - x.Cycle%2
	case step == 1:
		now.Val = x.Read(pc)
		x.Dma.Step = 2
	case step%2 == 0:
		now.Addr = uint16(int(x.Dma.Page)*256 + (step-2)/2)
		now.Val = x.Read(now.Addr)
		x.Dma.Val, x.Dma.Step = now.Val, step+1
	default:
		now.Addr, now.Val, now.Write = 0x2004, x.Dma.Val, true
		x.Write(0x2004, x.Dma.Val)
		x.Dma.Val, x.Dma.Step = 0, step+1
		if (step-3)/2 == 255 {
			x.Dma = api.Dma{}
		}
	}
	return now
}

func (x *told) Plain(addr uint16, write bool) bool {
	read, _ := at(addr)
	switch read {
	case "work":
		if write {
			return mapper.RamMode(x.Board) == 2
		}
		return mapper.RamMode(x.Board) > 0
	case "prg":
		return !write
	}
	return read == "ram"
}

func (x *told) Load(addr uint16) uint8 {
	if x.Plain(addr, false) {
		return x.Peek(addr)
	}
	return 0
}

func (x *told) Store(addr uint16, v uint8) {
	if x.Plain(addr, true) {
		x.put(addr, v)
	}
}

// where is Tag and Place.
func (x *told) where(addr uint16) (tag, place int) {
	if !x.Plain(addr, false) {
		return -1, -1
	}
	switch read, _ := at(addr); read {
	case "ram":
		return 128, int(addr) % 2048
	case "work":
		return 129, 2048 + int(addr) - 0x6000
	}
	bank := mapper.Bank(x.Board, int(addr)/8192-4)
	return bank, 10240 + 8192*bank + int(addr)%8192
}

func (x *told) Log() []api.Access {
	l := x.log
	x.log = nil
	return l
}

func (x *told) Stores() []int {
	l := x.stores
	x.stores = nil
	return l[max(0, len(l)-8):]
}

func (x *told) Reset() {
	x.Raster.Nmi, x.Raster.Draw, x.Line = false, false, false
	v := &x.Video
	v.T, v.X, v.Buf, v.W, v.Wide, v.Grey = 0, 0, 0, false, false, false
	k := &x.Clock
	k.Ctl, k.Pre, k.Flag, k.Over, k.Frame = 0, 0, false, false, false
	k.Wait = uint8(3 + x.Cycle%2)
	x.Dma = api.Dma{}
}

// The faces are alike, so that both can be asked the same.
type machine interface {
	Read(addr uint16) uint8
	Write(addr uint16, v uint8)
	Idle(n int)
	Settle(n int, open uint8)
	Peek(addr uint16) uint8
	Load(addr uint16) uint8
	Plain(addr uint16, write bool) bool
	Poll() (bool, bool)
	DmaStep(pc uint16) api.Access
	Log() []api.Access
	Stores() []int
	Reset()
}

var (
	_ machine = (*bus.Bus)(nil)
	_ machine = (*told)(nil)
)
