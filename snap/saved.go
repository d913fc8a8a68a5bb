package snap

import "tandem/api"

// saved is what a snapshot holds.
type saved struct {
	sum uint32 // the cartridge's
	api.State
}

// has tells whether a chunk is in the snapshot.
func (w *saved) has(chunk int) bool {
	switch chunk {
	case workChunk:
		return !empty(w.Mem.Work[:])
	case chrChunk:
		return !empty(w.Mem.Video.Chr[:])
	}
	return true
}

// size is the number of the snapshot's bytes.
func (w *saved) size() int {
	n := len(opening)
	for i, c := range chunks {
		if w.has(i) {
			n += headSize + c.size + sumSize
		}
	}
	return n
}

// lay puts a chunk into a snapshot at p. It answers the place behind it.
func (w *saved) lay(chunk int, data []byte, p int) int {
	c := chunks[chunk]
	from := p + headSize
	to := from + c.size
	end := to + sumSize
	copy(data[p:from], c.name)
	putLow(data[p+nameSize:from], uint64(c.size))
	w.carry(chunk, &writer{data[from:to:to]})
	putLow(data[to:end], uint64(sumOf(data[p:to])))
	return end
}

// read is what the bodies of a snapshot say, and the place of the first truth that is none, or nowhere.
func read(pieces [chunkCount]piece) (*saved, int) {
	w, wrong := &saved{}, nowhere
	for i, p := range pieces {
		if len(p.body) == 0 {
			continue
		}
		r := reader{left: p.body, at: p.at, wrong: nowhere}
		w.carry(i, &r)
		if wrong == nowhere {
			wrong = r.wrong
		}
	}
	return w, wrong
}

// carry carries a chunk's fields, in the order in which its body has them.
func (w *saved) carry(chunk int, c carrier) {
	m := &w.Mem
	switch chunk {
	case headChunk:
		numbers(c, 4, &w.sum)
		numbers(c, 8, &m.Cycle)
	case cpuChunk:
		carryCpu(c, &w.Cpu)
	case ramChunk:
		c.memory(m.Ram[:])
	case workChunk:
		c.memory(m.Work[:])
	case boardChunk:
		carryBoard(c, &m.Board)
	case clockChunk:
		carryClock(c, &m.Clock)
	case rasterChunk:
		carryRaster(c, &m.Raster)
	case videoChunk:
		carryVideo(c, &m.Video)
	case chrChunk:
		c.memory(m.Video.Chr[:])
	case padsChunk:
		truths(c, &m.Pads.Strobe)
		c.memory(m.Pads.Held[:])
		c.memory(m.Pads.Shift[:])
	case dmaChunk:
		truths(c, &m.Dma.On)
		numbers(c, 1, &m.Dma.Page)
		numbers(c, 2, &m.Dma.Step)
		numbers(c, 1, &m.Dma.Val)
	case busChunk:
		numbers(c, 1, &m.Open)
		truths(c, &m.Line, &m.Nmi)
	}
}

func carryCpu(c carrier, u *api.Cpu) {
	r := &u.Regs
	numbers(c, 1, &r.A, &r.X, &r.Y, &r.S, &r.P)
	numbers(c, 2, &r.PC)
	numbers(c, 1, &u.Take)
	truths(c, &u.Jam)
}

func carryBoard(c carrier, b *api.Board) {
	numbers(c, 1, &b.Kind, &b.Sub)
	numbers(c, 1, &b.Hard)
	truths(c, &b.Work)
	numbers(c, 2, &b.Prg, &b.Chr)
	truths(c, &b.ChrRam)
	numbers(c, 1, &b.Shift, &b.Ctrl, &b.ChrA, &b.ChrB, &b.PrgR)
	numbers(c, 8, &b.Last)
	numbers(c, 1, &b.Latch, &b.Sel)
	c.memory(b.R[:])
	numbers(c, 1, &b.Turn, &b.Guard, &b.IrqLatch, &b.IrqCount)
	truths(c, &b.IrqLoad, &b.IrqOn, &b.Irq)
	numbers(c, 8, &b.Epoch)
}

func carryClock(c carrier, k *api.Clock) {
	numbers(c, 2, &k.Latch, &k.Count, &k.Pre)
	numbers(c, 1, &k.Hold, &k.Ctl)
	truths(c, &k.Flag, &k.Over, &k.Five, &k.Inhibit, &k.Frame)
	numbers(c, 2, &k.At)
	numbers(c, 1, &k.Wait, &k.Beats)
}

func carryRaster(c carrier, r *api.Raster) {
	numbers(c, 2, &r.Line, &r.Dot)
	truths(c, &r.Odd, &r.Vbl, &r.Nmi, &r.Draw, &r.Hold)
}

// carryVideo leaves Chr out, which has a chunk of its own.
func carryVideo(c carrier, v *api.Video) {
	c.memory(v.Oam[:])
	numbers(c, 1, &v.OamAt)
	c.memory(v.Nt[:])
	c.memory(v.Pal[:])
	numbers(c, 2, &v.V, &v.T)
	numbers(c, 1, &v.X)
	truths(c, &v.W, &v.Wide, &v.Grey)
	numbers(c, 1, &v.Buf, &v.Io)
}
