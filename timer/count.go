package timer

import "tandem/api"

// Bits of Ctl.
const (
	ctlRun  = 1 << 0
	ctlAsk  = 1 << 1
	ctlOnce = 1 << 2
)

// dividers: how many cycles a step of the counter takes, by bits 4 and 3 of Ctl.
var dividers = [4]uint16{1, 8, 64, 256}

// dividerOf is the divider of a Ctl.
func dividerOf(ctl uint8) uint16 {
	return dividers[ctl>>3&3]
}

// tickTimer is one cycle of the timer.
func tickTimer(c *api.Clock) {
	if c.Ctl&ctlRun == 0 {
		return
	}
	c.Pre++
	if c.Pre < dividerOf(c.Ctl) {
		return
	}
	c.Pre = 0
	if c.Count > 0 {
		c.Count--
		return
	}
	runOut(c)
}

// runOut is a step of the counter from 0.
func runOut(c *api.Clock) {
	if c.Flag {
		c.Over = true
	}
	c.Flag = true
	c.Count = c.Latch
	if c.Ctl&ctlOnce != 0 {
		c.Ctl &^= ctlRun
	}
}

// advanceTimer is n cycles of the timer.
func advanceTimer(c *api.Clock, n int) {
	if c.Ctl&ctlRun == 0 {
		return
	}
	first := toRunOut(c)
	if n < first {
		countDown(c, n)
		return
	}
	c.Pre = 0
	runOut(c)
	if c.Ctl&ctlRun == 0 {
		return
	}
	rest, round := n-first, toRunOut(c)
	if rest >= round {
		runOut(c)
	}
	countDown(c, rest%round)
}

// toRunOut is how many cycles it takes a running timer to run out.
func toRunOut(c *api.Clock) int {
	return (int(c.Count)+1)*int(dividerOf(c.Ctl)) - int(c.Pre)
}

// countDown is n cycles of a running timer, fewer than it takes to run out.
func countDown(c *api.Clock, n int) {
	divider := int(dividerOf(c.Ctl))
	gone := int(c.Pre) + n
	c.Count -= uint16(gone / divider)
	c.Pre = uint16(gone % divider)
}
