package timer

import "tandem/api"

// fourBeats: the places of a round of four steps at which there is a beat.
var fourBeats = [4]uint16{7457, 14913, 22371, 29829}

// fiveBeats: the same of a round of five steps.
var fiveBeats = [4]uint16{7457, 14913, 22371, 37281}

// frames: the places of a round of four steps at which an interrupt is asked for. They stand next to each other, and the last is the round's end.
var frames = [3]uint16{29828, 29829, 29830}

// rounds: the place that becomes 0, with four steps and with five.
var rounds = [2]uint16{29830, 37282}

// beatsOf is the places of the beats.
func beatsOf(c *api.Clock) [4]uint16 {
	if c.Five {
		return fiveBeats
	}
	return fourBeats
}

// roundOf is the length of a round.
func roundOf(c *api.Clock) uint16 {
	if c.Five {
		return rounds[1]
	}
	return rounds[0]
}

// asksFrame tells whether the sequencer asks for interrupts at all.
func asksFrame(c *api.Clock) bool {
	return !c.Five && !c.Inhibit
}

// tickSequencer is one cycle of the sequencer.
func tickSequencer(c *api.Clock) {
	c.At++
	for _, at := range beatsOf(c) {
		if c.At == at {
			beat(c, 1)
		}
	}
	for _, at := range frames {
		if c.At == at && asksFrame(c) {
			c.Frame = true
		}
	}
	if c.At >= roundOf(c) {
		c.At = 0
	}
	if c.Wait > 0 {
		wait(c, 1)
	}
}

// beat is n beats.
func beat(c *api.Clock, n int) {
	c.Beats = uint8((int(c.Beats) + n) % (maxBeats + 1))
}

// wait is n cycles of those that are waited for; behind the last the sequencer begins anew.
func wait(c *api.Clock, n int) {
	c.Wait -= uint8(n)
	if c.Wait > 0 {
		return
	}
	c.At = 0
	if c.Five {
		beat(c, 1)
	}
}

// advanceSequencer is n cycles of the sequencer.
func advanceSequencer(c *api.Clock, n int) {
	if asksFrame(c) && n >= toFrame(c) {
		c.Frame = true
	}
	if c.Wait > 0 {
		lead := min(n, int(c.Wait))
		pass(c, lead)
		wait(c, lead)
		n -= lead
	}
	if n > 0 {
		pass(c, n)
	}
}

// pass goes on by n cycles, at least one, in which nothing begins anew ahead of its round's end; it counts the beats.
func pass(c *api.Clock, n int) {
	at, round := placeOf(c), int(roundOf(c))
	beats := 0
	for _, mark := range beatsOf(c) {
		first := int(mark) - at
		if first <= 0 {
			first += round
		}
		beats += times(n, first, round)
	}
	beat(c, beats)
	c.At = uint16((at + n%round + round) % round)
}

// times is how often something comes within n cycles that first comes with cycle number first, and then once a round.
func times(n, first, round int) int {
	if n < first {
		return 0
	}
	return 1 + (n-first)/round
}

// placeOf is the sequencer's place in its round. One at the round's end or behind it, which a round of five steps may leave to one of four, is followed by 0, so it is as good as the place ahead of 0.
func placeOf(c *api.Clock) int {
	if c.At >= roundOf(c) {
		return -1
	}
	return int(c.At)
}

// toFrame is how many cycles it takes a sequencer that asks for interrupts to ask for one.
func toFrame(c *api.Clock) int {
	mark, wait := int(frames[0]), int(c.Wait)
	first := max(1, mark-placeOf(c))
	if first > wait && wait > 0 {
		return wait + mark
	}
	return first
}
