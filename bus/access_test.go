package bus_test

import (
	"math/rand"
	"testing"

	"tandem/api"
	"tandem/bus"
	"tandem/mapper"
)

func TestRamIsMirrored(t *testing.T) {
	for _, base := range []uint16{0x0000, 0x0800, 0x1000, 0x1800} {
		b := fresh(t, nrom())
		writes(b, int(base), 0x11, int(base)+0x7ff, 0x22)
		for _, other := range []uint16{0x0000, 0x0800, 0x1000, 0x1800} {
			reads(t, "P10.4: RAM", b, other, 0x11)
			reads(t, "P10.4: RAM", b, other+0x7ff, 0x22)
			reads(t, "P10.4: RAM", b, other+1, 0)
		}
		m := b.Mem()
		if m.Ram[0] != 0x11 || m.Ram[0x7ff] != 0x22 || m.Cycle != 14 {
			t.Errorf("P10.4: written from %#x on: %d, %d, cycle %d", base, m.Ram[0], m.Ram[0x7ff], m.Cycle)
		}
	}
}

func TestVideoIsMirrored(t *testing.T) {
	for _, base := range []int{0x2000, 0x2008, 0x2ff8, 0x3000, 0x3ff8} {
		b := fresh(t, nrom())
		writes(b, base, 0x84, base+1, 0x19, base+3, 0x10, base+4, 0x77, base+5, 0x2b, base+5, 0x35, base+6, 0x21, base+6, 0x08, base+7, 0x55)
		m := b.Mem()
		v := m.Video
		if !m.Raster.Nmi || !m.Raster.Draw || !v.Wide || !v.Grey || v.Oam[0x10] != 0x77 || v.X != 3 || v.V != 0x2128 || v.T != 0x2108 || v.Nt[0x108] != 0x55 || v.Io != 0x55 {
			t.Errorf("P10.4: the registers at %#x: %+v, %+v", base, m.Raster, registers(v))
		}
		writes(b, base+3, 0x10, base+6, 0x21, base+6, 0x08)
		reads(t, "P10.4: the sprites' list", b, uint16(base+4), 0x77)
		reads(t, "P10.4: the old buffer", b, uint16(base+7), 0)
		writes(b, base+6, 0x21, base+6, 0x08)
		reads(t, "P10.4: the buffer", b, uint16(base+7), 0x55)
		writes(b, base+6, 0x3f)
		for _, reg := range []int{0, 1, 3, 5, 6} {
			reads(t, "P10.4: a register that can't be read", b, uint16(base+reg), 0x3f)
		}
		reads(t, "P10.4: the status", b, uint16(base+2), 0x1f)
		if b.Mem().Video.W {
			t.Errorf("P10.4: the status at %#x leaves W", base+2)
		}
	}
}

// The status shows the raster's flag and clears it; the other registers do neither.
func TestStatus(t *testing.T) {
	blank := func(m *api.Mem) { m.Raster = api.Raster{Line: 250, Vbl: true}; m.Video.Io = 0x1b }
	for reg := range uint16(8) {
		b := turned(t, nrom(), blank)
		v := b.Read(0x2000 + reg)
		if m := b.Mem(); m.Raster.Vbl != (reg != 2) {
			t.Errorf("P10.4: a read of register %d leaves Vbl %v", reg, m.Raster.Vbl)
		}
		if reg == 2 && v != 0x9b {
			t.Errorf("P10.4: the status is %#x, want $9B", v)
		}
	}
	b := turned(t, nrom(), func(m *api.Mem) { m.Raster = api.Raster{Line: 241, Nmi: true} })
	reads(t, "P10.4: the race", b, 0x2002, 0)
	if m := b.Mem(); m.Raster.Vbl || m.Nmi {
		t.Error("P10.4: the status one dot ahead of the flag does not hold it back")
	}
}

func TestOpenBus(t *testing.T) {
	holes := []uint16{0x4000, 0x4001, 0x4013, 0x4014, 0x401c, 0x401d, 0x4fff, 0x5000, 0x5fff}
	b := fresh(t, nrom())
	for i, addr := range holes {
		v := uint8(0x31 + 17*i)
		b.Write(0x0003, v)
		reads(t, "P10.4: open bus behind a write", b, addr, v)
		reads(t, "P10.4: open bus behind open bus", b, addr, v)
		b.Read(0x8000 + uint16(i) + 5)
		reads(t, "P10.4: open bus behind a read", b, addr, uint8(i+5))
		b.Idle(3)
		reads(t, "P10.4: open bus behind idle cycles", b, addr, uint8(i+5))
	}
	for _, addr := range append(holes[:3:3], 0x4015, 0x401c, 0x5fff, 0x8000) {
		m := b.Mem()
		b.Write(addr, 0x99)
		m.Open = 0x99
		same(t, "P10.4: a write that goes nowhere", b.Mem(), ended(m))
	}
}

// ended is a memory behind the end of a cycle.
func ended(m api.Mem) api.Mem {
	x := tell(api.Cart{}, m)
	x.end()
	return x.Mem
}

func TestClockPorts(t *testing.T) {
	b := turned(t, nrom(), func(m *api.Mem) {
		m.Clock = api.Clock{Latch: 0x1234, Count: 0x4567, Hold: 0x9a, Ctl: 0x12, Flag: true, Over: true, Frame: true, Beats: 0x15, At: 5}
		m.Open = 0xff
	})
	for _, x := range []struct {
		addr       uint16
		open, want uint8
	}{
		{0x4015, 0x3f, 0xff}, {0x4015, 0x2a, 0xaa}, {0x4018, 0, 0x67}, {0x4019, 0xff, 0x45},
		{0x401a, 0xff, 0xf2}, {0x401a, 0x00, 0x92}, {0x401b, 0, 0xd5}, {0x401b, 0xff, 0x15}, {0x4015, 0xff, 0x3f},
	} {
		b.Write(0x4000, x.open)
		reads(t, "P10.4: the clock", b, x.addr, x.want)
	}
	writes(b, 0x4018, 0xcd, 0x4019, 0xab, 0x401a, 0x82)
	if k := b.Mem().Clock; k.Latch != 0xabcd || k.Count != 0xabcd || k.Ctl != 2 {
		t.Errorf("P10.4: the timer's writes: %+v", k)
	}
	b = turned(t, nrom(), func(m *api.Mem) { m.Clock = api.Clock{Flag: true, Over: true} })
	b.Write(0x4015, 0)
	if k := b.Mem().Clock; !k.Flag || !k.Over {
		t.Error("P10.4: a write to $4015 goes somewhere")
	}
	b.Write(0x401b, 0)
	if k := b.Mem().Clock; k.Flag || k.Over {
		t.Error("P10.4: a write to $401B leaves the flags")
	}
}

// The sequencer's write is told the number of its cycle: of an even one two cycles are left to wait for, of an odd one three.
func TestSequencerPort(t *testing.T) {
	for cycle := range 4 {
		b := fresh(t, nrom())
		b.Idle(cycle)
		b.Write(0x4017, 0xc0)
		if k := b.Mem().Clock; !k.Five || !k.Inhibit || int(k.Wait) != 2+cycle%2 {
			t.Errorf("P10.4: a write to $4017 in cycle %d: %+v", cycle, k)
		}
	}
}

func TestPadPorts(t *testing.T) {
	b := fresh(t, nrom())
	b.Press(0xa5, 0x3c)
	writes(b, 0x4016, 1, 0x4016, 0)
	for i := range 9 {
		one, two := uint8(1), uint8(1)
		if i < 8 {
			one, two = 0xa5>>i&1, 0x3c>>i&1
		}
		b.Write(0x4000, 0xff)
		reads(t, "P10.4: the first pad", b, 0x4016, 0xe0|one)
		b.Write(0x4000, 0x5f)
		reads(t, "P10.4: the second pad", b, 0x4017, 0x40|two)
	}
	b.Write(0x4016, 3)
	if p := b.Mem().Pads; !p.Strobe || p.Shift != p.Held {
		t.Errorf("P10.4: the strobe: %+v", p)
	}
	was := b.Mem().Pads
	b.Write(0x4017, 0)
	if b.Mem().Pads != was {
		t.Error("P10.4: a write to $4017 reaches the pads")
	}
	b.Press(0x11, 0x22)
	if p := b.Mem().Pads; p.Held != [2]uint8{0x11, 0x22} || p.Shift != p.Held || b.Cycle() != b.Mem().Cycle {
		t.Errorf("P10.7: Press under the strobe: %+v", p)
	}
}

// workModes is a board with each RamMode.
func workModes(t *testing.T) map[int]*bus.Bus {
	l := map[int]*bus.Bus{}
	for _, guard := range []uint8{0x80, 0xc0, 0x00, 0x40} {
		b := turned(t, mmc3(), func(m *api.Mem) {
			m.Board.Guard = guard
			m.Work[0], m.Work[0x1fff] = 0x21, 0x43
		})
		l[mapper.RamMode(b.Mem().Board)] = b
	}
	if len(l) != 3 {
		t.Fatalf("there are %d modes of work RAM", len(l))
	}
	return l
}

func TestWorkRam(t *testing.T) {
	for mode, b := range workModes(t) {
		for _, x := range []struct {
			addr       uint16
			lies, put  uint8
			place, tag int
		}{{0x6000, 0x21, 0x65, 2048, api.TagWork}, {0x7fff, 0x43, 0x87, 10239, api.TagWork}} {
			b.Write(0x4000, 0x5a)
			want := x.lies
			if mode == 0 {
				want = 0x5a
			}
			reads(t, "P10.4: work RAM", b, x.addr, want)
			b.Write(x.addr, x.put)
			if mode == 2 {
				want = x.put
			} else {
				want = x.lies
			}
			if m := b.Mem(); m.Work[x.addr-0x6000] != want || m.Open != x.put {
				t.Errorf("P10.4: mode %d: a write to %#x leaves %#x, open bus %#x", mode, x.addr, m.Work[x.addr-0x6000], m.Open)
			}
		}
	}
}

func TestPrgAndBoard(t *testing.T) {
	c := filled(api.Cart{Mapper: api.UxROM, Sub: 2}, 8, 0)
	b := fresh(t, c)
	for _, addr := range []uint16{0x8000, 0x9fff, 0xa000, 0xbfff} {
		reads(t, "P10.4: PRG", b, addr, c.Prg[addr-0x8000])
	}
	reads(t, "P10.4: PRG's end", b, 0xffff, c.Prg[len(c.Prg)-1])
	under := b.Peek(0x8124)
	b.Write(0x8124, 0xff)
	if m := b.Mem(); m.Board.Latch != under || m.Board.Epoch != 1 || m.Open != 0xff {
		t.Errorf("P10.4: a bus conflict: Latch %#x, want %#x", m.Board.Latch, under)
	}
	bank := 2 * int(under) % 16
	for _, addr := range []int{0x8000, 0xbfff} {
		reads(t, "P10.4: another bank", b, uint16(addr), c.Prg[8192*bank+addr-0x8000])
	}
	// A board that knows cycles is told this one's number.
	b = fresh(t, filled(api.Cart{Mapper: api.MMC1}, 2, 0))
	b.Idle(41)
	b.Write(0xe000, 1)
	if m := b.Mem(); m.Board.Last != 41 || m.Board.Shift != 0x18 {
		t.Errorf("P10.4: the cycle of a write: %+v", m.Board)
	}
	b.Write(0xe000, 1)
	if m := b.Mem(); m.Board.Last != 42 || m.Board.Shift != 0x18 {
		t.Errorf("P10.4: two writes side by side: %+v", m.Board)
	}
}

func TestCycleEnd(t *testing.T) {
	m3 := func(m *api.Mem) {
		m.Raster = api.Raster{Line: 3, Dot: 257, Draw: true}
		m.Board.IrqOn, m.Board.IrqCount = true, 1
		m.Clock = api.Clock{Ctl: 3, Count: 9}
	}
	for name, do := range map[string]func(b *bus.Bus){
		"Read": func(b *bus.Bus) { b.Read(0) }, "Write": func(b *bus.Bus) { b.Write(0, 0) },
		"Idle": func(b *bus.Bus) { b.Idle(1) }, "Settle": func(b *bus.Bus) { b.Settle(1, 0) },
		"DmaStep": func(b *bus.Bus) { b.DmaStep(0) },
	} {
		b := turned(t, mmc3(), func(m *api.Mem) { m3(m); m.Dma.On = true })
		do(b)
		m := b.Mem()
		if m.Raster.Dot != 260 || !m.Board.Irq || m.Board.IrqCount != 0 || m.Clock.Count != 8 || m.Clock.At != 1 || m.Cycle != 1 {
			t.Errorf("P10.4: the end of %s: %+v, %+v, %+v, cycle %d", name, m.Raster, m.Board, m.Clock, m.Cycle)
		}
	}
}

// The line is sampled at the end of each cycle; the latch is set as it rises, and stays.
func TestSampledLine(t *testing.T) {
	b := turned(t, nrom(), func(m *api.Mem) { m.Raster = api.Raster{Line: 250, Vbl: true} })
	line := func(what string, want, nmi bool) {
		t.Helper()
		if m := b.Mem(); m.Line != want || m.Nmi != nmi {
			t.Errorf("P10.4: %s: Line %v, Nmi %v", what, m.Line, m.Nmi)
		}
	}
	b.Read(0)
	line("without NMI", false, false)
	b.Write(0x2000, 0x80)
	line("NMI is switched on in the blank", true, true)
	b.Ack()
	b.Read(0)
	line("the line stays high", true, false)
	b.Write(0x2000, 0)
	line("NMI is switched off", false, false)
	b.Write(0x2000, 0x80)
	line("and on again", true, true)
	b.Read(0x2002)
	line("the status clears the flag", false, true)
	for name, do := range map[string]func(){
		"Read": func() { b.Read(0) }, "Write": func() { b.Write(0, 0) }, "Idle": func() { b.Idle(1) },
		"Settle": func() { b.Settle(1, 0) }, "DmaStep": func() { b.DmaStep(0) },
	} {
		b = turned(t, nrom(), func(m *api.Mem) { m.Raster, m.Dma.On = api.Raster{Line: 240, Dot: 339, Nmi: true}, true })
		do()
		line("the flag comes with "+name, true, true)
	}
}

// Every address, read and written one behind the other from memories full of bytes, as the table says.
func TestEveryAddress(t *testing.T) {
	r := rand.New(rand.NewSource(1004))
	for i, c := range carts() {
		m := anyMem(r, c)
		b, x := from(t, c, m), tell(c, m)
		list := edges
		if i%4 == 0 {
			list = make([]uint16, 65536)
			for k := range list {
				list[k] = uint16(k)
			}
		}
		for _, addr := range list {
			for _, o := range []machine{b, x} {
				o.Write(0x4000, uint8(addr*7))
			}
			if got, want := b.Read(addr), x.Read(addr); got != want {
				t.Fatalf("P10.4: cartridge %d: Read(%#x) = %#x, want %#x", i, addr, got, want)
			}
			v := anyByte(r)
			b.Write(addr, v)
			x.Write(addr, v)
			if b.Mem() != x.Mem {
				t.Fatalf("P10.4: cartridge %d: behind a read of %#x and a write of %#x: %s", i, addr, v, differ(b.Mem(), x.Mem))
			}
		}
	}
}

func TestPeek(t *testing.T) {
	r := rand.New(rand.NewSource(1005))
	for i, c := range carts() {
		for range 3 {
			m := anyMem(r, c)
			b := from(t, c, m)
			for _, addr := range edges {
				got := b.Peek(addr)
				if again := b.Peek(addr); got != again {
					t.Errorf("P10.5: Peek(%#x) = %#x, and then %#x", addr, got, again)
				}
				if want := from(t, c, m).Read(addr); got != want {
					t.Errorf("P10.5: cartridge %d: Peek(%#x) = %#x, Read answers %#x", i, addr, got, want)
				}
			}
			same(t, "P10.5: behind Peek", b.Mem(), m)
			if l, s := b.Log(), b.Stores(); len(l) != 0 || len(s) != 0 {
				t.Errorf("P10.5: Peek logs %v, stores %v", l, s)
			}
		}
	}
}

func TestPressAndCycle(t *testing.T) {
	r := rand.New(rand.NewSource(1007))
	for range 100 {
		c := nrom()
		m := anyMem(r, c)
		b := from(t, c, m)
		if b.Cycle() != m.Cycle {
			t.Errorf("P10.7: Cycle() = %d, want %d", b.Cycle(), m.Cycle)
		}
		one, two := anyByte(r), anyByte(r)
		b.Press(one, two)
		m.Pads.Held = [2]uint8{one, two}
		if m.Pads.Strobe {
			m.Pads.Shift = m.Pads.Held
		}
		same(t, "P10.7: Press", b.Mem(), m)
	}
}
