package dbt_test

import (
	"cmp"
	"slices"
	"testing"

	"tandem/api"
	"tandem/interp"
	"tandem/xlate"
)

// told is the dispatcher a second time, word by word as the chapter tells it: whole windows of code, a plain list by slots, and no worker.
type told struct {
	cart        api.Cart
	m           *interp.Machine
	size, limit int
	held        map[int]lying // by slot
	stats       api.Stats
	entries     []api.Entry
	empty       int // misses whose block was empty
	running     api.Key
}

// lying is a block, and the place of its first byte.
type lying struct {
	b     api.Block
	place int
}

// toldFrom is one at a state.
func toldFrom(t *testing.T, c api.Cart, s api.State, size, limit int) *told {
	t.Helper()
	m, e := interp.From(c, s)
	if e != api.OK {
		t.Fatalf("interp.From: %d", e)
	}
	return &told{cart: c, m: m, size: size, limit: limit, held: map[int]lying{}}
}

// slot is a key's slot.
func (w *told) slot(k api.Key) int { return (int(k.PC) + 40503*k.Tag) % w.size }

// block is the block at an address of a memory.
func (w *told) block(mem *api.Mem, pc uint16) api.Block {
	tag := w.m.Bus().Tag(pc)
	var code []byte
	switch tag {
	case api.TagNone:
		return api.Block{}
	case api.TagRam:
		code = mem.Ram[pc%0x800:]
	case api.TagWork:
		code = mem.Work[pc%0x2000:]
	default:
		code = w.cart.Prg[tag*0x2000:][pc%0x2000 : 0x2000]
	}
	b, e := xlate.Translate(pc, tag, code, w.limit)
	if e != api.OK {
		panic(e)
	}
	return b
}

// put puts a block that has instructions.
func (w *told) put(b api.Block) {
	k := key(b.PC, b.Tag)
	if old, ok := w.held[w.slot(k)]; ok && key(old.b.PC, old.b.Tag) != k {
		w.stats.Evicted++
	}
	w.held[w.slot(k)] = lying{b, w.m.Bus().Place(b.PC)}
}

// pass is P15.2.
func (w *told) pass(left int) int {
	cycle, cpu := w.m.Bus().Cycle(), w.m.Cpu()
	if left < 1 || cycle >= api.MaxCycle {
		return 0
	}
	if left > api.MaxCycle-cycle {
		left = api.MaxCycle - cycle
	}
	if w.first(cpu) {
		return w.step()
	}
	mem := w.m.Bus().Mem()
	k := key(cpu.Regs.PC, w.m.Bus().Tag(cpu.Regs.PC))
	l, hit := w.held[w.slot(k)]
	hit = hit && key(l.b.PC, l.b.Tag) == k
	b := l.b
	if hit {
		w.stats.Hits++
	} else {
		w.stats.Misses++
		b = w.block(&mem, k.PC)
		if b.Insts == 0 {
			w.empty++
			return w.step()
		}
		w.put(b)
	}
	if b.Most > left || b.Most > w.m.Bus().Horizon() {
		return w.step()
	}
	n, insts := w.enter(b, mem.Open, hit)
	if insts == 0 {
		n += w.step()
	}
	return n
}

// first is the first of the four cases.
func (w *told) first(cpu api.Cpu) bool {
	if cpu.Jam || w.m.Bus().Dma() || cpu.Take != 0 {
		return true
	}
	latch, level := w.m.Bus().Poll()
	if latch {
		return true
	}
	if level && cpu.Regs.P&4 == 0 {
		return true
	}
	return w.m.Bus().Tag(cpu.Regs.PC) == -1
}

// enter is the fourth.
func (w *told) enter(b api.Block, open uint8, hit bool) (int, int) {
	w.stats.Blocks++
	w.running = key(b.PC, b.Tag)
	cycle := w.m.Bus().Cycle()
	out := xlate.Run(b, w.m.Cpu().Regs, open, w)
	w.m.Bus().Settle(out.Cycles, out.Open)
	w.m.SetCpu(api.Cpu{Regs: out.Regs})
	if out.Left == 2 {
		w.stats.Guards++
	}
	if out.Left == 3 {
		w.stats.Stores++
	}
	w.entries = append(w.entries, api.Entry{Cycle: cycle, PC: b.PC, Tag: b.Tag, Bytes: b.Bytes, Hit: hit, Insts: out.Insts, Left: out.Left})
	return out.Cycles, out.Insts
}

// Plain, Load, Store: what a block works on.
func (w *told) Plain(addr uint16, write bool) bool { return w.m.Bus().Plain(addr, write) }

func (w *told) Load(addr uint16) uint8 { return w.m.Bus().Load(addr) }

func (w *told) Store(addr uint16, v uint8) bool {
	w.m.Bus().Store(addr, v)
	if addr < 0x2000 {
		return w.drop(int(addr % 0x800))
	}
	return w.drop(2048 + int(addr%0x2000))
}

// drop throws the blocks away that cover a place: was the running one among them?
func (w *told) drop(place int) bool {
	ran := false
	for slot, l := range w.held {
		if place >= l.place && place < l.place+len(l.b.Bytes) {
			delete(w.held, slot)
			w.stats.Dropped++
			ran = ran || key(l.b.PC, l.b.Tag) == w.running
		}
	}
	return ran
}

// step is a step.
func (w *told) step() int {
	w.m.Bus().Stores()
	n := w.m.Step()
	w.stats.Steps++
	for _, place := range w.m.Bus().Stores() {
		w.drop(place)
	}
	return n
}

// play is P15.3, of a turn that is not refused.
func (w *told) play(turn api.Turn) int {
	if turn.Reset {
		w.m.Reset()
	}
	if turn.Flush {
		w.flush()
	}
	w.m.Press(turn.One, turn.Two)
	done := 0
	for done < int(turn.Budget) {
		done += w.pass(int(turn.Budget) - done)
	}
	return done
}

// flush is P15.4's.
func (w *told) flush() {
	w.held = map[int]lying{}
	w.stats.Flushes++
}

// warm is P15.5, of what is not refused.
func (w *told) warm(pcs []uint16) int {
	mem := w.m.Bus().Mem()
	n := 0
	for _, pc := range pcs {
		if b := w.block(&mem, pc); b.Insts > 0 {
			w.put(b)
			n++
		}
	}
	return n
}

// keys is the keys, in order.
func (w *told) keys() []api.Key {
	var list []api.Key
	for _, l := range w.held {
		list = append(list, key(l.b.PC, l.b.Tag))
	}
	slices.SortFunc(list, func(a, b api.Key) int {
		return cmp.Or(cmp.Compare(a.PC, b.PC), cmp.Compare(a.Tag, b.Tag))
	})
	return list
}
