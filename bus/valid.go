package bus

import (
	"tandem/api"
	"tandem/mapper"
	"tandem/raster"
	"tandem/timer"
	"tandem/vram"
)

// valid is Valid, of a memory that is not copied for it; fresh is the cartridge's new board.
func valid(m *api.Mem, fresh api.Board) bool {
	return mapper.Valid(m.Board) && bodyOf(m.Board) == bodyOf(fresh) &&
		m.Cycle >= 0 && m.Cycle <= api.EndCycle && writtenBefore(m) &&
		timer.Valid(m.Clock) && raster.Valid(m.Raster) && vram.Valid(m.Video, m.Board) &&
		m.Line == raster.Line(m.Raster) && dmaFits(m.Dma)
}

// bodyOf is what of a board its cartridge says once and for all.
func bodyOf(b api.Board) api.Board {
	return api.Board{Kind: b.Kind, Sub: b.Sub, Hard: b.Hard, Work: b.Work, Prg: b.Prg, Chr: b.Chr, ChrRam: b.ChrRam}
}

// writtenBefore tells whether a board that keeps the cycle of its last write keeps one that is done.
func writtenBefore(m *api.Mem) bool {
	return m.Board.Kind != api.MMC1 || m.Board.Last < m.Cycle
}

// dmaFits tells whether a copying may stand as it does.
func dmaFits(d api.Dma) bool {
	if !d.On {
		return d == api.Dma{}
	}
	return d.Step >= dmaHalt && d.Step <= dmaLast && (dmaWrites(d) || d.Val == 0)
}
