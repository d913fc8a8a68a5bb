package snap_test

import (
	"bytes"
	"math/rand"
	"slices"
	"testing"

	"tandem/api"
	"tandem/cart"
	"tandem/snap"
)

// names is the names of a snapshot's chunks, in their order.
func names(data []byte) []string {
	list := []string{}
	for _, p := range places(data) {
		list = append(list, p.name)
	}
	return list
}

// WORK and CHR_ are there just where a byte of them is not 0.
func TestChunks(t *testing.T) {
	for _, x := range []struct {
		what      string
		work, chr bool
		size      int
		want      []string
	}{
		{"neither", false, false, small, []string{"HEAD", "CPU_", "RAM_", "BRD_", "CLK_", "RAS_", "VID_", "PAD_", "DMA_", "BUS_", "END_"}},
		{"WORK alone", true, false, small + extra, []string{"HEAD", "CPU_", "RAM_", "WORK", "BRD_", "CLK_", "RAS_", "VID_", "PAD_", "DMA_", "BUS_", "END_"}},
		{"CHR_ alone", false, true, small + extra, []string{"HEAD", "CPU_", "RAM_", "BRD_", "CLK_", "RAS_", "VID_", "CHR_", "PAD_", "DMA_", "BUS_", "END_"}},
		{"both", true, true, small + 2*extra, []string{"HEAD", "CPU_", "RAM_", "WORK", "BRD_", "CLK_", "RAS_", "VID_", "CHR_", "PAD_", "DMA_", "BUS_", "END_"}},
	} {
		for _, at := range []int{0, 1, 4095, 8190, 8191} {
			s := first(t, nrom())
			if x.work {
				s.Mem.Work[at] = 1
			}
			if x.chr {
				s.Mem.Video.Chr[at] = 255
			}
			data := saves(t, x.what, 3, s)
			if len(data) != x.size || !slices.Equal(names(data), x.want) {
				t.Fatalf("P16.2: %s: %d bytes, chunks %v", x.what, len(data), names(data))
			}
			for _, p := range places(data) {
				sum := cart.Crc(data[p.at:p.sum])
				if !bytes.Equal(data[p.sum:p.end], []byte{byte(sum), byte(sum >> 8), byte(sum >> 16), byte(sum >> 24)}) {
					t.Errorf("P16.2: %s: the sum of %s: % x", x.what, p.name, data[p.sum:p.end])
				}
			}
			loads(t, x.what, 3, data, &s)
		}
	}
}

// bodyOf asks for the body of a chunk.
func bodyOf(t *testing.T, data []byte, name string, want ...byte) {
	t.Helper()
	p := placeOf(t, data, name)
	if got := data[p.body:p.sum]; !bytes.Equal(got, want) {
		t.Errorf("P16.2: the body of %s: % x, want % x", name, got, want)
	}
}

// Each body, byte by byte.
func TestBodies(t *testing.T) {
	s := first(t, sized(api.Cart{Mapper: api.MMC1, Sub: 5, Four: true, PrgRam: 1}, 64, 64))
	m := &s.Mem
	s.Cpu = api.Cpu{Regs: api.Regs{A: 1, X: 2, Y: 3, S: 4, P: 0xe5, PC: 0x1234}, Take: 2}
	m.Cycle, m.Open, m.Nmi, m.Line = 0x0102030405060708, 0xab, true, true
	b := &m.Board
	b.Shift, b.Ctrl, b.ChrA, b.ChrB, b.PrgR, b.Last, b.Epoch = 0x1f, 0x1e, 0x1d, 0x1c, 0x1b, 0x0001020304050607, 0x1011121314151617
	m.Clock = api.Clock{Latch: 0x1122, Count: 0x3344, Pre: 0x00fe, Hold: 0x66, Ctl: 0x1f, Flag: true, Over: true, Inhibit: true, At: 0x7788, Wait: 3, Beats: 0x3f}
	m.Raster = api.Raster{Line: 0xf5, Dot: 0x123, Odd: true, Vbl: true, Nmi: true}
	m.Pads = api.Pads{Strobe: true, Held: [2]uint8{1, 2}, Shift: [2]uint8{3, 4}}
	m.Dma = api.Dma{On: true, Page: 0x77, Step: 0x101, Val: 0x99}
	data := saves(t, "bodies", 0xa1b2c3d4, s)
	bodyOf(t, data, "HEAD", 0xd4, 0xc3, 0xb2, 0xa1, 8, 7, 6, 5, 4, 3, 2, 1)
	bodyOf(t, data, "CPU_", 1, 2, 3, 4, 0xe5, 0x34, 0x12, 2, 0)
	bodyOf(t, data, "BRD_", 1, 5, 4, 1, 128, 0, 0, 2, 0, 0x1f, 0x1e, 0x1d, 0x1c, 0x1b, 7, 6, 5, 4, 3, 2, 1, 0, 0, 0,
		0, 0, 0, 0, 0, 0, 0, 0, 0, 0, 0, 0, 0, 0, 0, 0x17, 0x16, 0x15, 0x14, 0x13, 0x12, 0x11, 0x10)
	bodyOf(t, data, "CLK_", 0x22, 0x11, 0x44, 0x33, 0xfe, 0, 0x66, 0x1f, 1, 1, 0, 1, 0, 0x88, 0x77, 3, 0x3f)
	bodyOf(t, data, "RAS_", 0xf5, 0, 0x23, 1, 1, 1, 1, 0, 0)
	bodyOf(t, data, "PAD_", 1, 1, 2, 3, 4)
	bodyOf(t, data, "DMA_", 1, 0x77, 1, 1, 0x99)
	bodyOf(t, data, "BUS_", 0xab, 1, 1)
	bodyOf(t, data, "END_")
}

// The other boards' registers, and the CPU, the clock and the raster with what they lacked above.
func TestOtherBodies(t *testing.T) {
	s := first(t, sized(api.Cart{Mapper: api.MMC3, Sub: 4, Vert: true}, 1, 0))
	m := &s.Mem
	b := &m.Board
	b.Sel, b.R, b.Turn, b.Guard, b.IrqLatch, b.IrqLoad, b.IrqOn, b.Irq = 0xc7, [8]uint8{1, 2, 3, 4, 5, 6, 7, 8}, 1, 0xc0, 0x44, true, true, true
	s.Cpu.Take, s.Cpu.Jam = 0, true
	m.Clock = api.Clock{Five: true, Frame: true}
	m.Raster = api.Raster{Line: 241, Draw: true, Hold: true}
	data := saves(t, "bodies", 0, s)
	bodyOf(t, data, "CPU_", 0, 0, 0, 0, 0x20, 0, 0, 0, 1)
	bodyOf(t, data, "BRD_", 4, 4, 1, 0, 2, 0, 8, 0, 1, 0, 0, 0, 0, 0, 0, 0, 0, 0, 0, 0, 0, 0, 0, 0xc7, 1, 2, 3, 4, 5, 6, 7, 8, 1, 0xc0, 0x44, 0, 1, 1, 1, 0, 0, 0, 0, 0, 0, 0, 0)
	bodyOf(t, data, "CLK_", 0, 0, 0, 0, 0, 0, 0, 0, 0, 0, 1, 0, 1, 0, 0, 0, 0)
	bodyOf(t, data, "RAS_", 0xf1, 0, 0, 0, 0, 0, 0, 1, 1)
	bodyOf(t, data, "PAD_", 0, 0, 0, 0, 0)
	bodyOf(t, data, "DMA_", 0, 0, 0, 0, 0)
	bodyOf(t, data, "BUS_", 0, 0, 0)
	s = first(t, sized(api.Cart{Mapper: api.AxROM}, 2, 0))
	s.Mem.Board.Latch, s.Mem.Board.Epoch = 0x9a, 1
	bodyOf(t, saves(t, "kind 7", 0, s), "BRD_", 7, 0, 0, 0, 4, 0, 8, 0, 1, 0, 0, 0, 0, 0, 0, 0, 0, 0, 0, 0, 0, 0, 0x9a, 0, 0, 0, 0, 0, 0, 0, 0, 0, 0, 0, 0, 0, 0, 0, 0, 1, 0, 0, 0, 0, 0, 0, 0)
	s = first(t, one())
	bodyOf(t, saves(t, "kind 1", 0, s), "BRD_", 1, 0, 0, 1, 4, 0, 8, 0, 1, 0x10, 0x0c, 0, 0, 0, 0xfe, 255, 255, 255, 255, 255, 255, 255, 0, 0, 0, 0, 0, 0, 0, 0, 0, 0, 0, 0, 0, 0, 0, 0, 0, 0, 0, 0, 0, 0, 0, 0, 0)
}

// The memories.
func TestMemories(t *testing.T) {
	_, s, data := full(t)
	m, v := &s.Mem, &s.Mem.Video
	bodyOf(t, data, "RAM_", m.Ram[:]...)
	bodyOf(t, data, "WORK", m.Work[:]...)
	bodyOf(t, data, "CHR_", v.Chr[:]...)
	bit := map[bool]byte{true: 1}
	bodyOf(t, data, "VID_", join(v.Oam[:], []byte{v.OamAt}, v.Nt[:], v.Pal[:], []byte{
		byte(v.V), byte(v.V >> 8), byte(v.T), byte(v.T >> 8), v.X, bit[v.W], bit[v.Wide], bit[v.Grey], v.Buf, v.Io,
	})...)
}

// Drawn states: the bytes of the second form, and back, both ways.
func TestThereAndBack(t *testing.T) {
	r := rand.New(rand.NewSource(1602))
	for _, c := range boards() {
		for range 40 {
			s, sum := anyState(r, c), r.Uint32()
			if flip(r) {
				s.Mem.Work = [8192]uint8{}
			}
			if flip(r) {
				s.Mem.Video.Chr = [8192]uint8{}
			}
			data := saves(t, "any state", sum, s)
			if !bytes.Equal(data, toldBytes(sum, &s)) {
				t.Fatalf("P16.2: %s: not the bytes of the second form", registers(s))
			}
			loads(t, "P16.4: any state", sum, data, &s)
			refused(t, "P16.4: any state", sum+1, data, api.ErrOther, 14)
		}
	}
}

// Two states have one snapshot just if they are equal: a field that is another makes another snapshot.
func TestOneSnapshot(t *testing.T) {
	r := rand.New(rand.NewSource(1603))
	seen := map[string]api.State{}
	for range 200 {
		s := anyState(r, nrom())
		for range 5 {
			data := string(saves(t, "any state", 1, s))
			if was, ok := seen[data]; ok && was != s {
				t.Fatalf("P16.4: one snapshot for %s and %s", registers(was), registers(s))
			}
			seen[data] = s
			s.Mem.Open++
		}
	}
	if len(seen) != 1000 {
		t.Errorf("P16.4: %d snapshots of 1000 states", len(seen))
	}
}

// The sum is the caller's: any number will do.
func TestSums(t *testing.T) {
	s := first(t, nrom())
	for _, sum := range []uint32{0, 1, 0x80000000, 0xffffffff, 0x01020304} {
		data := saves(t, "a sum", sum, s)
		loads(t, "a sum", sum, data, &s)
		for bit := range 32 {
			refused(t, "a sum with a bit turned", sum^1<<bit, data, api.ErrOther, 14)
		}
	}
}

// The chapter's examples.
func TestExamples(t *testing.T) {
	s := first(t, nrom())
	data := saves(t, "example", 0, s)
	if len(data) != 6688 || !bytes.Equal(data[:18], []byte{0x54, 0x4e, 0x44, 0x4d, 0x1a, 1, 0x48, 0x45, 0x41, 0x44, 0x0c, 0, 0, 0, 0, 0, 0, 0}) {
		t.Errorf("example 1: %d bytes, % x", len(data), data[:18])
	}
	loads(t, "example", 0, data, &s)
	for _, x := range []struct {
		sum  uint32
		data []byte
		e    api.Errno
		at   int
	}{
		{1, data, api.ErrOther, 14},
		{0, data[:6687], api.ErrShort, 6687},
		{0, join(data, []byte{0}), api.ErrTail, 6688},
		{0, with(data, 5, 2), api.ErrVersion, 5},
		{0, with(data, 6, 'h'), api.ErrChunk, 6},
		{0, with(data, 10, 13), api.ErrWeight, 10},
		{0, with(data, 14, 1), api.ErrSum, 26},
		{0, []byte{0x54, 0x4e}, api.ErrShort, 2},
		{0, []byte{0x54, 0x4f}, api.ErrMagic, 1},
	} {
		refused(t, "example", x.sum, x.data, x.e, x.at)
	}
	trainer := nrom()
	trainer.Trainer = bytes.Repeat([]byte{9}, 512)
	if n := len(saves(t, "a trainer", 0, first(t, trainer))); n != small+extra {
		t.Errorf("P16.2: a new machine with a trainer: %d bytes", n)
	}
	if d, e := snap.Save(0, api.State{}); e != api.ErrState || len(d) != 0 {
		t.Errorf("P16.2: the zero State: %d bytes, %d", len(d), e)
	}
}
