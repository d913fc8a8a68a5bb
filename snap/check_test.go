package snap_test

import (
	"math"
	"math/rand"
	"reflect"
	"testing"

	"tandem/api"
	"tandem/raster"
	"tandem/snap"
	"tandem/stepper"
)

// change is a state that is another than that of a new machine.
type change struct {
	name string
	cart api.Cart
	turn func(s *api.State)
}

// one and three are cartridges of the boards with the most registers; rom is one with CHR of its own.
func one() api.Cart   { return sized(api.Cart{Mapper: api.MMC1, PrgRam: 8192}, 2, 0) }
func three() api.Cart { return sized(api.Cart{Mapper: api.MMC3, PrgRam: 8192}, 2, 0) }
func rom() api.Cart   { return sized(api.Cart{}, 1, 1) }

// wrongCpus breaks what P16.1 asks of the CPU.
func wrongCpus() []change {
	return []change{
		{"P without bit 5", nrom(), func(s *api.State) { s.Cpu.Regs.P = 0 }},
		{"P all but bit 5", nrom(), func(s *api.State) { s.Cpu.Regs.P = 0xcf }},
		{"P with bit 4", nrom(), func(s *api.State) { s.Cpu.Regs.P = 0x30 }},
		{"P with bit 4 alone", nrom(), func(s *api.State) { s.Cpu.Regs.P = 0x10 }},
		{"Take 4", nrom(), func(s *api.State) { s.Cpu.Take = 4 }},
		{"Take 255", nrom(), func(s *api.State) { s.Cpu.Take = 255 }},
		{"Jam with Take 1", nrom(), func(s *api.State) { s.Cpu.Jam, s.Cpu.Take = true, 1 }},
		{"Jam with Take 2", nrom(), func(s *api.State) { s.Cpu.Jam, s.Cpu.Take, s.Mem.Nmi = true, 2, true }},
		{"Jam with Take 3", nrom(), func(s *api.State) { s.Cpu.Jam = true }},
		{"Take 2 without the latch", nrom(), func(s *api.State) { s.Cpu.Take = 2 }},
		{"Take 2, the line high, without the latch", nrom(), func(s *api.State) {
			s.Cpu.Take, s.Mem.Line, s.Mem.Raster = 2, true, api.Raster{Line: 250, Vbl: true, Nmi: true}
		}},
	}
}

// wrongBoards breaks what mapper.Valid asks.
func wrongBoards() []change {
	return []change{
		{"kind 5", nrom(), func(s *api.State) { s.Mem.Board.Kind = 5 }},
		{"kind 255", nrom(), func(s *api.State) { s.Mem.Board.Kind = 255 }},
		{"kind -1", nrom(), func(s *api.State) { s.Mem.Board.Kind = -1 }},
		{"Sub 1 of kind 0", nrom(), func(s *api.State) { s.Mem.Board.Sub = 1 }},
		{"Sub -1", nrom(), func(s *api.State) { s.Mem.Board.Sub = -1 }},
		{"Hard OneLow", nrom(), func(s *api.State) { s.Mem.Board.Hard = api.OneLow }},
		{"Hard 5", nrom(), func(s *api.State) { s.Mem.Board.Hard = 5 }},
		{"Prg 0", nrom(), func(s *api.State) { s.Mem.Board.Prg = 0 }},
		{"Prg 3", nrom(), func(s *api.State) { s.Mem.Board.Prg = 3 }},
		{"Prg 130", nrom(), func(s *api.State) { s.Mem.Board.Prg = 130 }},
		{"Prg -2", nrom(), func(s *api.State) { s.Mem.Board.Prg = -2 }},
		{"Chr 0", rom(), func(s *api.State) { s.Mem.Board.Chr = 0 }},
		{"Chr 12", rom(), func(s *api.State) { s.Mem.Board.Chr = 12 }},
		{"Chr 520", rom(), func(s *api.State) { s.Mem.Board.Chr = 520 }},
		{"CHR-RAM and Chr 16", nrom(), func(s *api.State) { s.Mem.Board.Chr = 16 }},
		{"Shift of kind 0", nrom(), func(s *api.State) { s.Mem.Board.Shift = 16 }},
		{"Last of kind 0", nrom(), func(s *api.State) { s.Mem.Board.Last = -2 }},
		{"Latch of kind 0", nrom(), func(s *api.State) { s.Mem.Board.Latch = 1 }},
		{"R of kind 0", nrom(), func(s *api.State) { s.Mem.Board.R[7] = 1 }},
		{"Guard of kind 1", one(), func(s *api.State) { s.Mem.Board.Guard = 128 }},
		{"IrqOn of kind 1", one(), func(s *api.State) { s.Mem.Board.IrqOn = true }},
		{"Shift 0", one(), func(s *api.State) { s.Mem.Board.Shift = 0 }},
		{"Shift 32", one(), func(s *api.State) { s.Mem.Board.Shift = 32 }},
		{"Ctrl 32", one(), func(s *api.State) { s.Mem.Board.Ctrl = 32 }},
		{"ChrA 32", one(), func(s *api.State) { s.Mem.Board.ChrA = 32 }},
		{"ChrB 32", one(), func(s *api.State) { s.Mem.Board.ChrB = 32 }},
		{"PrgR 32", one(), func(s *api.State) { s.Mem.Board.PrgR = 32 }},
		{"Last -1", one(), func(s *api.State) { s.Mem.Board.Last = -1 }},
		{"Last -3", one(), func(s *api.State) { s.Mem.Board.Last = -3 }},
		{"Sel $08", three(), func(s *api.State) { s.Mem.Board.Sel = 8 }},
		{"Turn 2", three(), func(s *api.State) { s.Mem.Board.Turn = 2 }},
		{"Guard $20", three(), func(s *api.State) { s.Mem.Board.Guard = 0x20 }},
		{"IrqLoad with a count", three(), func(s *api.State) { s.Mem.Board.IrqLoad, s.Mem.Board.IrqCount = true, 1 }},
		{"Irq without IrqOn", three(), func(s *api.State) { s.Mem.Board.Irq = true }},
		{"Epoch -1", nrom(), func(s *api.State) { s.Mem.Board.Epoch = -1 }},
		{"Epoch above 2^62", nrom(), func(s *api.State) { s.Mem.Board.Epoch = api.Never + 1 }},
	}
}

// wrongTimes breaks what is asked of cycles, of the clock and of the raster.
func wrongTimes() []change {
	return []change{
		{"Cycle -1", nrom(), func(s *api.State) { s.Mem.Cycle = -1 }},
		{"the least Cycle", nrom(), func(s *api.State) { s.Mem.Cycle = math.MinInt }},
		{"Cycle EndCycle + 1", nrom(), func(s *api.State) { s.Mem.Cycle = api.EndCycle + 1 }},
		{"the greatest Cycle", nrom(), func(s *api.State) { s.Mem.Cycle = math.MaxInt }},
		{"Last 0 in cycle 0", one(), func(s *api.State) { s.Mem.Board.Last = 0 }},
		{"Last at Cycle", one(), func(s *api.State) { s.Mem.Board.Last, s.Mem.Cycle = 9, 9 }},
		{"Last above Cycle", one(), func(s *api.State) { s.Mem.Board.Last, s.Mem.Cycle = 10, 9 }},
		{"Last at EndCycle", one(), func(s *api.State) { s.Mem.Board.Last, s.Mem.Cycle = api.EndCycle, api.EndCycle }},
		{"Ctl 32", nrom(), func(s *api.State) { s.Mem.Clock.Ctl = 32 }},
		{"Pre 1 of divider 1", nrom(), func(s *api.State) { s.Mem.Clock.Pre = 1 }},
		{"Pre 256 of divider 256", nrom(), func(s *api.State) { s.Mem.Clock.Pre, s.Mem.Clock.Ctl = 256, 24 }},
		{"At 37282", nrom(), func(s *api.State) { s.Mem.Clock.At = 37282 }},
		{"Wait 5", nrom(), func(s *api.State) { s.Mem.Clock.Wait = 5 }},
		{"Beats 64", nrom(), func(s *api.State) { s.Mem.Clock.Beats = 64 }},
		{"Over without Flag", nrom(), func(s *api.State) { s.Mem.Clock.Over = true }},
		{"Inhibit and Frame", nrom(), func(s *api.State) { s.Mem.Clock.Inhibit, s.Mem.Clock.Frame = true, true }},
		{"Line -1", nrom(), func(s *api.State) { s.Mem.Raster.Line = -1 }},
		{"Line 262", nrom(), func(s *api.State) { s.Mem.Raster.Line = 262 }},
		{"Dot -1", nrom(), func(s *api.State) { s.Mem.Raster.Dot = -1 }},
		{"Dot 341", nrom(), func(s *api.State) { s.Mem.Raster.Dot = 341 }},
		{"Vbl at (241, 0)", nrom(), func(s *api.State) { s.Mem.Raster = api.Raster{Line: 241, Vbl: true} }},
		{"Vbl at (261, 1)", nrom(), func(s *api.State) { s.Mem.Raster = api.Raster{Line: 261, Dot: 1, Vbl: true} }},
		{"Hold at (241, 1)", nrom(), func(s *api.State) { s.Mem.Raster = api.Raster{Line: 241, Dot: 1, Hold: true} }},
		{"a high line", nrom(), func(s *api.State) { s.Mem.Line = true }},
		{"a high line by Vbl alone", nrom(), func(s *api.State) { s.Mem.Line, s.Mem.Raster = true, api.Raster{Line: 250, Vbl: true} }},
		{"a high line by Nmi alone", nrom(), func(s *api.State) { s.Mem.Line, s.Mem.Raster = true, api.Raster{Line: 250, Nmi: true} }},
		{"a low line", nrom(), func(s *api.State) { s.Mem.Raster = api.Raster{Line: 250, Vbl: true, Nmi: true} }},
	}
}

// wrongMemories breaks what is asked of the video memory and of DMA.
func wrongMemories() []change {
	dma := func(d api.Dma) func(s *api.State) { return func(s *api.State) { s.Mem.Dma = d } }
	return []change{
		{"V $8000", nrom(), func(s *api.State) { s.Mem.Video.V = 0x8000 }},
		{"T $FFFF", nrom(), func(s *api.State) { s.Mem.Video.T = 0xffff }},
		{"X 8", nrom(), func(s *api.State) { s.Mem.Video.X = 8 }},
		{"Oam's third byte with bit 2", nrom(), func(s *api.State) { s.Mem.Video.Oam[2] = 4 }},
		{"Oam's last third byte with bit 4", nrom(), func(s *api.State) { s.Mem.Video.Oam[254] = 16 }},
		{"Pal 64", nrom(), func(s *api.State) { s.Mem.Video.Pal[31] = 64 }},
		{"Pal's entry 16", nrom(), func(s *api.State) { s.Mem.Video.Pal[16] = 1 }},
		{"Pal's entry 28", nrom(), func(s *api.State) { s.Mem.Video.Pal[28] = 1 }},
		{"CHR-RAM where there is none", rom(), func(s *api.State) { s.Mem.Video.Chr[0] = 1 }},
		{"CHR-RAM where there is none, at its end", rom(), func(s *api.State) { s.Mem.Video.Chr[8191] = 1 }},
		{"Page without DMA", nrom(), dma(api.Dma{Page: 1})},
		{"Step without DMA", nrom(), dma(api.Dma{Step: 2})},
		{"Val without DMA", nrom(), dma(api.Dma{Val: 1})},
		{"Step 3 and Val without DMA", nrom(), dma(api.Dma{Step: 3, Val: 1})},
		{"Step -1", nrom(), dma(api.Dma{On: true, Step: -1})},
		{"Step 514", nrom(), dma(api.Dma{On: true, Step: 514})},
		{"Step 515 with Val", nrom(), dma(api.Dma{On: true, Step: 515, Val: 1})},
		{"Val at Step 0", nrom(), dma(api.Dma{On: true, Val: 1})},
		{"Val at Step 1", nrom(), dma(api.Dma{On: true, Step: 1, Val: 1})},
		{"Val at Step 2", nrom(), dma(api.Dma{On: true, Step: 2, Val: 128})},
		{"Val at Step 512", nrom(), dma(api.Dma{On: true, Step: 512, Val: 255})},
	}
}

// goodStates is states at the edges of what may be.
func goodStates() []change {
	dma := func(d api.Dma) func(s *api.State) { return func(s *api.State) { s.Mem.Dma = d } }
	return []change{
		{"a new one", nrom(), func(s *api.State) {}},
		{"Cycle 0 of kind 1", one(), func(s *api.State) {}},
		{"Cycle MaxCycle", nrom(), func(s *api.State) { s.Mem.Cycle = api.MaxCycle }},
		{"Cycle EndCycle", nrom(), func(s *api.State) { s.Mem.Cycle = api.EndCycle }},
		{"Last 0 in cycle 1", one(), func(s *api.State) { s.Mem.Board.Last, s.Mem.Cycle = 0, 1 }},
		{"Last just below EndCycle", one(), func(s *api.State) { s.Mem.Board.Last, s.Mem.Cycle = api.EndCycle-1, api.EndCycle }},
		{"P all but bit 4", nrom(), func(s *api.State) { s.Cpu.Regs.P = 0xef }},
		{"Take 0", nrom(), func(s *api.State) { s.Cpu.Take = 0 }},
		{"Take 1", nrom(), func(s *api.State) { s.Cpu.Take = 1 }},
		{"Take 2 with the latch", nrom(), func(s *api.State) { s.Cpu.Take, s.Mem.Nmi = 2, true }},
		{"Take 3 with the latch", nrom(), func(s *api.State) { s.Mem.Nmi = true }},
		{"Jam", nrom(), func(s *api.State) { s.Cpu.Jam, s.Cpu.Take = true, 0 }},
		{"Jam with the latch", nrom(), func(s *api.State) { s.Cpu.Jam, s.Cpu.Take, s.Mem.Nmi = true, 0, true }},
		{"Shift 31, all registers 31", one(), func(s *api.State) {
			b := &s.Mem.Board
			b.Shift, b.Ctrl, b.ChrA, b.ChrB, b.PrgR = 31, 31, 31, 31, 31
		}},
		{"Sel $C7, Guard $C0, Irq", three(), func(s *api.State) {
			b := &s.Mem.Board
			b.Sel, b.Guard, b.Turn, b.IrqOn, b.Irq, b.IrqLoad, b.IrqLatch = 0xc7, 0xc0, 1, true, true, true, 255
		}},
		{"Epoch 2^62", three(), func(s *api.State) { s.Mem.Board.Epoch = api.Never }},
		{"the greatest board", sized(api.Cart{Mapper: api.CNROM, Sub: 2, Four: true, PrgNv: 1}, 64, 64), func(s *api.State) { s.Mem.Board.Latch = 255 }},
		{"the end of the clock's ranges", nrom(), func(s *api.State) {
			s.Mem.Clock = api.Clock{Latch: 0xffff, Count: 0xffff, Pre: 255, Hold: 255, Ctl: 31, Flag: true, Over: true, Five: true, Frame: true, At: 37281, Wait: 4, Beats: 63}
		}},
		{"the end of the raster's ranges", nrom(), func(s *api.State) { s.Mem.Raster = api.Raster{Line: 261, Dot: 340, Odd: true, Nmi: true, Draw: true} }},
		{"Vbl at (241, 1)", nrom(), func(s *api.State) {
			s.Mem.Line, s.Mem.Raster = true, api.Raster{Line: 241, Dot: 1, Vbl: true, Nmi: true}
		}},
		{"Vbl at (261, 0)", nrom(), func(s *api.State) { s.Mem.Raster = api.Raster{Line: 261, Vbl: true} }},
		{"Hold", nrom(), func(s *api.State) { s.Mem.Raster = api.Raster{Line: 241, Hold: true} }},
		{"the end of the video's ranges", nrom(), func(s *api.State) {
			v := &s.Mem.Video
			v.V, v.T, v.X, v.W, v.Wide, v.Grey, v.Buf, v.Io, v.OamAt = 0x7fff, 0x7fff, 7, true, true, true, 255, 255, 255
			v.Oam[2], v.Oam[255], v.Pal[31], v.Nt[4095] = 0xe3, 0xff, 63, 255
		}},
		{"all that is on the pads", nrom(), func(s *api.State) {
			s.Mem.Pads = api.Pads{Strobe: true, Held: [2]uint8{1, 2}, Shift: [2]uint8{3, 4}}
		}},
		{"DMA, Step 0", nrom(), dma(api.Dma{On: true, Page: 255})},
		{"DMA, Step 1", nrom(), dma(api.Dma{On: true, Step: 1})},
		{"DMA, Step 2", nrom(), dma(api.Dma{On: true, Step: 2})},
		{"DMA, Step 3", nrom(), dma(api.Dma{On: true, Step: 3, Val: 255})},
		{"DMA, Step 512", nrom(), dma(api.Dma{On: true, Step: 512})},
		{"DMA, Step 513", nrom(), dma(api.Dma{On: true, Page: 4, Step: 513, Val: 9})},
		{"WORK where no board lets it", rom(), func(s *api.State) { s.Mem.Work[0] = 1 }},
		{"WORK by its last byte", nrom(), func(s *api.State) { s.Mem.Work[8191] = 1 }},
		{"CHR_ by its first byte", nrom(), func(s *api.State) { s.Mem.Video.Chr[0] = 128 }},
		{"CHR_ by its last byte", nrom(), func(s *api.State) { s.Mem.Video.Chr[8191] = 1 }},
		{"WORK and CHR_", nrom(), func(s *api.State) { s.Mem.Work[4096], s.Mem.Video.Chr[4096] = 1, 1 }},
	}
}

// checks asks whether a state may be saved.
func checks(t *testing.T, what string, s *api.State, want api.Errno) {
	t.Helper()
	if e := snap.Check(*s); e != want {
		t.Errorf("P16.1: %s: Check: %d, want %d", what, e, want)
	}
	data, e := snap.Save(5, *s)
	if e != want || (e == api.OK) != (len(data) > 0) {
		t.Errorf("P16.2: %s: Save: %d bytes, %d, want %d", what, len(data), e, want)
	}
}

// Each sentence of P16.1, broken alone.
func TestWrongStates(t *testing.T) {
	for _, list := range [][]change{wrongCpus(), wrongBoards(), wrongTimes(), wrongMemories()} {
		for _, w := range list {
			s := first(t, w.cart)
			checks(t, w.name+": ahead of it", &s, api.OK)
			w.turn(&s)
			checks(t, w.name, &s, api.ErrState)
			if toldCheck(&s) != api.ErrState {
				t.Errorf("%s: the second form takes it", w.name)
			}
			refused(t, w.name, 5, toldBytes(5, &s), api.ErrState, 0)
		}
	}
	checks(t, "the zero State", &api.State{}, api.ErrState)
}

func TestGoodStates(t *testing.T) {
	for _, g := range goodStates() {
		s := turned(t, g.cart, g.turn)
		checks(t, g.name, &s, api.OK)
		if m, e := stepper.From(g.cart, s); m == nil || e != api.OK {
			t.Errorf("%s: the stepper refuses it: %d", g.name, e)
		}
		told := toldBytes(7, &s)
		if data := saves(t, g.name, 7, s); string(data) != string(told) {
			t.Errorf("P16.2: %s: not the bytes of the second form", g.name)
		}
		loads(t, g.name, 7, told, &s)
	}
}

// What P10.2 asks of the cartridge is not asked: the same state fits whatever its cartridge's bytes are, and a board is asked for itself alone.
func TestNoCartridge(t *testing.T) {
	for _, c := range boards() {
		s := first(t, c)
		checks(t, "a new board", &s, api.OK)
		s.Mem.Board.Work = !s.Mem.Board.Work
		checks(t, "another Work", &s, api.OK)
		s.Mem.Board.Hard = api.FourPages
		checks(t, "another Hard", &s, api.OK)
		s.Mem.Board.Prg = 128
		checks(t, "another Prg", &s, api.OK)
		if !s.Mem.Board.ChrRam {
			s.Mem.Board.Chr = 512
			checks(t, "another Chr", &s, api.OK)
		}
		if s.Mem.Board.Chr == 8 {
			s.Mem.Board.ChrRam = !s.Mem.Board.ChrRam
			checks(t, "another ChrRam", &s, api.OK)
		}
	}
}

// spoil puts something else into a field of a struct, at any depth.
func spoil(r *rand.Rand, v reflect.Value) {
	for v.Kind() == reflect.Struct || v.Kind() == reflect.Array {
		if v.Kind() == reflect.Struct {
			v = v.Field(r.Intn(v.NumField()))
		} else {
			v = v.Index(r.Intn(v.Len()))
		}
	}
	switch v.Kind() {
	case reflect.Bool:
		v.SetBool(!v.Bool())
	case reflect.Int:
		v.SetInt(some(r, v.Int()+1, v.Int()-1, int64(r.Intn(600)), -1, 1<<62, 1<<62+7, math.MaxInt, math.MinInt, int64(r.Uint64())))
	default:
		v.SetUint(some(r, v.Uint()+1, uint64(1)<<r.Intn(16), r.Uint64()) & (1<<v.Type().Bits() - 1))
	}
}

// Drawn states with drawn fields that are others: Check says of each what the machines say of it.
func TestSpoiltStates(t *testing.T) {
	r := rand.New(rand.NewSource(1601))
	seen := map[api.Errno]int{}
	for _, c := range boards() {
		base := anyState(r, c)
		for range 1500 {
			s := base
			for range 1 + r.Intn(2) {
				spoil(r, reflect.ValueOf(&s).Elem())
			}
			if flip(r) {
				s.Mem.Line = raster.Line(s.Mem.Raster)
			}
			want := toldCheck(&s)
			if e := snap.Check(s); e != want {
				t.Fatalf("P16.1: %s: %d, want %d", registers(s), e, want)
			}
			seen[want]++
		}
	}
	if seen[api.OK] < 1000 || seen[api.ErrState] < 1000 {
		t.Errorf("%v: too few to tell", seen)
	}
}
