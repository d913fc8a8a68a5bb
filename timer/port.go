package timer

import "tandem/api"

// The addresses that the clock answers to.
const (
	portStatus   = 0x4015
	portSequence = 0x4017
	portLow      = 0x4018
	portHigh     = 0x4019
	portCtl      = 0x401a
	portFlag     = 0x401b
)

// Read is a read of $4015 or $4018 to $401B: the value, the bits that it drives, the clock behind it.
func Read(c api.Clock, addr uint16) (uint8, uint8, api.Clock) {
	if !Valid(c) {
		return 0, 0, c
	}
	switch addr {
	case portStatus:
		v := when(c.Flag, 0x80) | when(c.Frame, 0x40)
		c.Frame = false
		return v, 0xc0, c
	case portLow:
		c.Hold = uint8(c.Count >> 8)
		return uint8(c.Count), 0xff, c
	case portHigh:
		return c.Hold, 0xff, c
	case portCtl:
		return c.Ctl | when(c.Flag, 0x80), 0x9f, c
	case portFlag:
		v := when(c.Flag, 0x80) | when(c.Over, 0x40) | c.Beats
		return v, 0xff, acknowledged(c)
	}
	return 0, 0, c
}

// Write is a write to $4017 or $4018 to $401B in the cycle of that number.
func Write(c api.Clock, addr uint16, v uint8, cycle int) api.Clock {
	if !Valid(c) {
		return c
	}
	switch addr {
	case portSequence:
		return sequenced(c, v, cycle)
	case portLow:
		c.Latch = c.Latch&0xff00 | uint16(v)
	case portHigh:
		c.Latch = c.Latch&0x00ff | uint16(v)<<8
	case portCtl:
		c.Ctl = v & maxCtl
		c.Pre = 0
		if v&0x80 != 0 {
			c.Count = c.Latch
		}
	case portFlag:
		return acknowledged(c)
	}
	return c
}

// sequenced is the clock behind a write to the sequencer.
func sequenced(c api.Clock, v uint8, cycle int) api.Clock {
	c.Five = v&0x80 != 0
	c.Inhibit = v&0x40 != 0
	if c.Inhibit {
		c.Frame = false
	}
	c.Wait = 3
	if cycle&1 != 0 {
		c.Wait = 4
	}
	return c
}

// acknowledged is the clock whose running out has been seen.
func acknowledged(c api.Clock) api.Clock {
	c.Flag, c.Over = false, false
	return c
}

// when is a bit if something holds, else none.
func when(holds bool, bit uint8) uint8 {
	if holds {
		return bit
	}
	return 0
}
