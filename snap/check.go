package snap

import (
	"tandem/api"
	"tandem/mapper"
	"tandem/raster"
	"tandem/timer"
	"tandem/vram"
)

// Steps of DMA: from dmaCopy on a read and a write are by turns, the last one a write.
const (
	dmaCopy = 2
	dmaLast = 513
)

// fits tells whether a state may be that of a machine with some cartridge.
func fits(s *api.State) bool {
	return cpuFits(s.Cpu, s.Mem.Nmi) && memFits(&s.Mem)
}

// cpuFits tells whether a CPU may stand beside an NMI latch.
func cpuFits(c api.Cpu, latch bool) bool {
	return c.Regs.P&(api.FlagU|api.FlagB) == api.FlagU && c.Take <= api.TakeReset &&
		(!c.Jam || c.Take == api.TakeNone) && (c.Take != api.TakeNmi || latch)
}

func memFits(m *api.Mem) bool {
	return mapper.Valid(m.Board) && m.Cycle >= 0 && m.Cycle <= api.EndCycle && writtenBefore(m) &&
		timer.Valid(m.Clock) && raster.Valid(m.Raster) && vram.Valid(m.Video, m.Board) &&
		m.Line == raster.Line(m.Raster) && dmaFits(m.Dma)
}

// writtenBefore tells whether a board that keeps the cycle of its last write keeps one that is done.
func writtenBefore(m *api.Mem) bool {
	return m.Board.Kind != api.MMC1 || m.Board.Last < m.Cycle
}

func dmaFits(d api.Dma) bool {
	if !d.On {
		return d == api.Dma{}
	}
	writes := d.Step > dmaCopy && d.Step%2 != 0
	return d.Step >= 0 && d.Step <= dmaLast && (writes || d.Val == 0)
}
