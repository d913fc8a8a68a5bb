package bus

import (
	"tandem/api"
	"tandem/raster"
	"tandem/timer"
)

// The bits of a write to the sequencer.
const (
	sequencerFive    = 0x80
	sequencerInhibit = 0x40
)

// The timer's ports that a reset clears.
const (
	portCtl  = 0x401a
	portFlag = 0x401b
)

// Reset is the reset line.
func (b *Bus) Reset() {
	if !b.made() {
		return
	}
	m := &b.mem
	m.Raster = raster.Mask(raster.Ctrl(m.Raster, 0), 0)
	m.Line = false
	m.Video.T, m.Video.X, m.Video.Buf = 0, 0, 0
	m.Video.W, m.Video.Wide, m.Video.Grey = false, false, false
	m.Clock = resetClock(m.Clock, m.Cycle)
	m.Dma = api.Dma{}
}

// resetClock is a clock behind the reset line: the timer stands, and the sequencer begins anew as it was set.
func resetClock(c api.Clock, cycle int) api.Clock {
	set := uint8(0)
	if c.Five {
		set |= sequencerFive
	}
	if c.Inhibit {
		set |= sequencerInhibit
	}
	c = timer.Write(c, portCtl, 0, cycle)
	c = timer.Write(c, portFlag, 0, cycle)
	c = timer.Write(c, portSequencer, set, cycle)
	c.Frame = false
	return c
}
