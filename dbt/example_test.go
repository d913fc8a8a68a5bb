package dbt_test

import (
	"testing"

	"tandem/api"
)

// The chapter's examples, by their numbers.

// counting is a loop: LDX #5, DEX, BNE back to DEX, JMP $8000.
var counting = []uint8{0xa2, 0x05, 0xca, 0xd0, 0xfd, 0x4c, 0x00, 0x80}

func TestExample1(t *testing.T) {
	m := begun(t, console(counting...), 16, 8)
	passes(t, "the reset", m, 7)
	stats(t, "the reset", m, api.Stats{Steps: 1})
	entries(t, "the reset", m)
	keys(t, "the reset", m)
	passes(t, "the block", m, 7)
	keys(t, "the block", m, key(0x8000, 0))
	entries(t, "the block", m, api.Entry{Cycle: 7, PC: 0x8000, Bytes: "\xa2\x05\xca\xd0\xfd", Insts: 3, Left: api.LeftEnd})
	stats(t, "the block", m, api.Stats{Steps: 1, Blocks: 1, Misses: 1})
	if r := m.State().Cpu.Regs; r.PC != 0x8002 || r.X != 4 {
		t.Errorf("behind the block: %+v", r)
	}
}

func TestExample2(t *testing.T) {
	m := behindReset(t, counting...)
	passes(t, "the loop", m, 7, 5)
	stats(t, "the loop's first round", m, api.Stats{Steps: 1, Blocks: 2, Misses: 2})
	passes(t, "the loop", m, 5, 5, 4)
	stats(t, "the loop's last round", m, api.Stats{Steps: 1, Blocks: 5, Hits: 3, Misses: 2})
	passes(t, "the jump", m, 3, 7)
	stats(t, "around", m, api.Stats{Steps: 1, Blocks: 7, Hits: 4, Misses: 3})
	keys(t, "around", m, key(0x8000, 0), key(0x8002, 0), key(0x8005, 0))
	round := func(cycle int, hit bool) api.Entry {
		return api.Entry{Cycle: cycle, PC: 0x8002, Bytes: "\xca\xd0\xfd", Hit: hit, Insts: 2, Left: api.LeftEnd}
	}
	first := api.Entry{Cycle: 7, PC: 0x8000, Bytes: "\xa2\x05\xca\xd0\xfd", Insts: 3, Left: api.LeftEnd}
	again := first
	again.Cycle, again.Hit = 36, true
	entries(t, "around", m, first, round(14, false), round(19, true), round(24, true), round(29, true),
		api.Entry{Cycle: 33, PC: 0x8005, Bytes: "\x4c\x00\x80", Insts: 1, Left: api.LeftEnd}, again)
}

func TestExample3(t *testing.T) {
	m := behindReset(t, counting...)
	pass(t, "three are left", m, 3, 2)
	keys(t, "three are left", m, key(0x8000, 0))
	entries(t, "three are left", m)
	stats(t, "three are left", m, api.Stats{Steps: 2, Misses: 1})
	if r := m.State().Cpu.Regs; r.PC != 0x8002 || r.X != 5 {
		t.Errorf("behind LDX: %+v", r)
	}
}

func TestExample4(t *testing.T) {
	m := behindReset(t, 0xad, 0x02, 0x20)
	passes(t, "a guard", m, 4)
	entries(t, "a guard", m, api.Entry{Cycle: 7, PC: 0x8000, Bytes: "\xad\x02\x20\xea\xea\xea\xea\xea\xea\xea", Left: api.LeftGuard})
	stats(t, "a guard", m, api.Stats{Steps: 2, Blocks: 1, Misses: 1, Guards: 1})
	keys(t, "a guard", m, key(0x8000, 0))
	if l := m.Log(); len(l) != 1 || l[0] != (api.Access{Cycle: 10, Addr: 0x2002}) {
		t.Errorf("the step's access: %+v", l)
	}
}

func TestExample5(t *testing.T) {
	m := behindReset(t, 0x58)
	passes(t, "CLI", m, 2)
	keys(t, "CLI", m)
	entries(t, "CLI", m)
	stats(t, "CLI", m, api.Stats{Steps: 2, Misses: 1})
}

func TestExample6(t *testing.T) {
	c := console()
	m := from(t, c, standing(t, c, inRam(0x0200, 0xee, 0x04, 0x02, 0xa9, 0x00, 0x4c, 0x00, 0x02)), 16, 8)
	passes(t, "INC", m, 6)
	entries(t, "INC", m, api.Entry{PC: 0x0200, Tag: api.TagRam, Bytes: "\xee\x04\x02\xa9\x00\x4c\x00\x02", Insts: 1, Left: api.LeftStore})
	stats(t, "INC", m, api.Stats{Blocks: 1, Misses: 1, Dropped: 1, Stores: 1})
	keys(t, "INC", m)
	passes(t, "LDA", m, 5)
	entries(t, "LDA", m, api.Entry{Cycle: 6, PC: 0x0203, Tag: api.TagRam, Bytes: "\xa9\x01\x4c\x00\x02", Insts: 2, Left: api.LeftEnd})
	if r := m.State().Cpu.Regs; r.A != 1 || r.PC != 0x0200 {
		t.Errorf("behind LDA #$01: %+v", r)
	}
}

func TestExample7(t *testing.T) {
	c := console(0x4c, 0x10, 0x80) // JMP $8010
	copy(c.Prg[0x10:], []byte{0x4c, 0x00, 0x80})
	m := begun(t, c, 1, 8)
	passes(t, "the reset", m, 7)
	for i := range 20 {
		passes(t, "one slot", m, 3)
		stats(t, "one slot", m, api.Stats{Steps: 1, Blocks: i + 1, Misses: i + 1, Evicted: i})
		keys(t, "one slot", m, key(uint16(0x8000+0x10*(i%2)), 0))
	}
}

func TestExample8(t *testing.T) {
	m := behindReset(t)
	warms(t, "twice", m, []uint16{0x8000, 0x2000, 0x8000}, 3, 2, api.OK)
	keys(t, "twice", m, key(0x8000, 0))
	stats(t, "twice", m, api.Stats{Steps: 1})
}

func TestExample9(t *testing.T) {
	m := behindReset(t, counting...)
	passes(t, "ahead", m, 7, 5)
	keys(t, "ahead", m, key(0x8000, 0), key(0x8002, 0))
	m.Entries()
	plays(t, "a turn with a flush", m, api.Turn{Budget: 50, Flush: true}, 50, api.OK)
	if s := m.Stats(); s.Flushes != 1 || s.Misses != 5 {
		t.Errorf("a flush: %+v", s)
	}
	if l := m.Entries(); len(l) == 0 || l[0].PC != 0x8002 || l[0].Hit {
		t.Errorf("the cache is empty first: %+v", l)
	}
	plays(t, "a flush alone", m, api.Turn{Flush: true}, 0, api.OK)
	keys(t, "a flush alone", m)
	if s := m.Stats(); s.Flushes != 2 {
		t.Errorf("a flush alone: %+v", s)
	}
}

func TestExample10(t *testing.T) {
	m := behindReset(t, 0x02)
	for i := range 50 {
		passes(t, "a jammed CPU", m, 1)
		stats(t, "a jammed CPU", m, api.Stats{Steps: 2 + i, Misses: 1})
	}
	keys(t, "a jammed CPU", m)
	entries(t, "a jammed CPU", m)
}
