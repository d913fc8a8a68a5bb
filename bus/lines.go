package bus

import (
	"tandem/api"
	"tandem/mapper"
	"tandem/raster"
	"tandem/timer"
)

// Poll is the NMI latch and the IRQ level at the end of the last cycle.
func (b *Bus) Poll() (bool, bool) {
	if !b.made() {
		return false, false
	}
	return b.mem.Nmi, level(&b.mem)
}

// Ack clears the NMI latch.
func (b *Bus) Ack() {
	if b.made() {
		b.mem.Nmi = false
	}
}

// Horizon is how many idle cycles go by, api.Far at most, ahead of the one behind which Poll answers otherwise.
func (b *Bus) Horizon() int {
	if !b.made() {
		return 0
	}
	return min(api.Far, toLatch(&b.mem)-1, toLevel(&b.mem)-1)
}

// level is the IRQ level.
func level(m *api.Mem) bool {
	return m.Board.Irq || timer.Irq(m.Clock)
}

// toLatch is how many idle cycles it takes until the latch is another. Idle cycles never clear it.
func toLatch(m *api.Mem) int {
	if m.Nmi {
		return api.Never
	}
	return toRise(m.Raster)
}

// toRise is how many cycles it takes until the NMI line rises; one that is high must fall ahead of that.
func toRise(r api.Raster) int {
	n := raster.Next(r)
	if !raster.Line(r) {
		return n
	}
	fallen, _ := raster.Advance(r, n)
	return n + raster.Next(fallen)
}

// rises tells whether the NMI line rises within n cycles, which may be more than api.Never.
func rises(r api.Raster, n int) bool {
	to := toRise(r)
	return to != api.Never && n >= to
}

// toLevel is how many idle cycles it takes until the level is another. What asks goes on asking in idle cycles.
func toLevel(m *api.Mem) int {
	if level(m) {
		return api.Never
	}
	// A board that never asks says -1, which no raster counts to.
	return min(timer.Next(m.Clock), raster.After(m.Raster, mapper.ToIrq(m.Board)))
}
