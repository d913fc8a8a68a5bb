package timer_test

import "tandem/api"

// The chapter's words a second time, in whole numbers, with Ctl taken apart and a round told place by place.

// told is a clock, valid or not; its numbers are those of the fields.
type told struct {
	latch, count, pre, hold, ctl int
	flag, over                   bool
	five, inhibit, frame         bool
	at, wait, beats              int
}

func open(c api.Clock) told {
	return told{
		latch: int(c.Latch), count: int(c.Count), pre: int(c.Pre), hold: int(c.Hold), ctl: int(c.Ctl),
		flag: c.Flag, over: c.Over, five: c.Five, inhibit: c.Inhibit, frame: c.Frame,
		at: int(c.At), wait: int(c.Wait), beats: int(c.Beats),
	}
}

func (t told) shut() api.Clock {
	return api.Clock{
		Latch: uint16(t.latch), Count: uint16(t.count), Pre: uint16(t.pre), Hold: uint8(t.hold), Ctl: uint8(t.ctl),
		Flag: t.flag, Over: t.over, Five: t.five, Inhibit: t.inhibit, Frame: t.frame,
		At: uint16(t.at), Wait: uint8(t.wait), Beats: uint8(t.beats),
	}
}

// has tells whether a bit of a number is set, by its value.
func has(v, bit int) bool { return v/bit%2 == 1 }

func (t told) divider() int {
	switch {
	case !has(t.ctl, 16) && !has(t.ctl, 8):
		return 1
	case !has(t.ctl, 16):
		return 8
	case !has(t.ctl, 8):
		return 64
	}
	return 256
}

func (t told) valid() bool {
	switch {
	case t.ctl >= 32, t.pre > t.divider()-1, t.at > 37281, t.wait > 4, t.beats > 63:
		return false
	case t.over && !t.flag, t.inhibit && t.frame:
		return false
	}
	return true
}

func (t told) irq() bool {
	return t.frame || t.flag && has(t.ctl, 2)
}

// tick is a cycle of a valid clock.
func (t *told) tick() {
	t.tickTimer()
	t.tickSequencer()
}

func (t *told) tickTimer() {
	if !has(t.ctl, 1) {
		return
	}
	if t.pre++; t.pre != t.divider() {
		return
	}
	t.pre = 0
	if t.count > 0 {
		t.count--
		return
	}
	if t.flag {
		t.over = true
	}
	t.flag = true
	t.count = t.latch
	if has(t.ctl, 4) {
		t.ctl--
	}
}

func (t *told) tickSequencer() {
	t.at++
	beats, end := 0, 37282
	if t.five {
		switch t.at {
		case 7457, 14913, 22371, 37281:
			beats++
		}
	} else {
		end = 29830
		switch t.at {
		case 7457, 14913, 22371, 29829:
			beats++
		}
		switch t.at {
		case 29828, 29829, 29830:
			t.frame = t.frame || !t.inhibit
		}
	}
	if t.at >= end {
		t.at = 0
	}
	if t.wait == 1 {
		t.at = 0
		if t.five {
			beats++
		}
	}
	if t.wait > 0 {
		t.wait--
	}
	for ; beats > 0; beats-- {
		if t.beats++; t.beats == 64 {
			t.beats = 0
		}
	}
}

// ofBits is a byte of bits, the highest first.
func ofBits(bits ...bool) int {
	v := 0
	for _, b := range bits {
		v *= 2
		if b {
			v++
		}
	}
	return v
}

// read is a read of a valid clock.
func (t *told) read(addr int) (value, mask int) {
	switch addr {
	case 0x4015:
		value, mask = 64*ofBits(t.flag, t.frame), 128+64
		t.frame = false
	case 0x4018:
		value, mask = t.count%256, 255
		t.hold = t.count / 256
	case 0x4019:
		value, mask = t.hold, 255
	case 0x401a:
		value, mask = 128*ofBits(t.flag)+t.ctl, 128+31
	case 0x401b:
		value, mask = 64*ofBits(t.flag, t.over)+t.beats, 255
		t.flag, t.over = false, false
	}
	return value, mask
}

// write is a write to a valid clock.
func (t *told) write(addr, v int, odd bool) {
	switch addr {
	case 0x4017:
		t.five, t.inhibit = has(v, 128), has(v, 64)
		t.frame = t.frame && !t.inhibit
		t.wait = 3 + ofBits(odd)
	case 0x4018:
		t.latch = t.latch/256*256 + v
	case 0x4019:
		t.latch = v*256 + t.latch%256
	case 0x401a:
		t.ctl, t.pre = v%32, 0
		if has(v, 128) {
			t.count = t.latch
		}
	case 0x401b:
		t.flag, t.over = false, false
	}
}
