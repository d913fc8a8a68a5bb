package bus_test

import (
	"math/rand"
	"testing"

	"tandem/api"
	"tandem/bus"
)

// nothing asks that every method answers zero values and does nothing.
func nothing(t *testing.T, what string, b *bus.Bus) {
	t.Helper()
	for _, addr := range edges {
		b.Write(addr, 0xff)
		if b.Store(addr, 0xff) {
			t.Errorf("P10.17: Store(%#x) of %s", addr, what)
		}
		if b.Read(addr) != 0 || b.Peek(addr) != 0 || b.Load(addr) != 0 || b.Tag(addr) != 0 || b.Place(addr) != 0 {
			t.Errorf("P10.17: an answer at %#x of %s", addr, what)
		}
		if b.Plain(addr, false) || b.Plain(addr, true) || b.DmaStep(addr) != (api.Access{}) {
			t.Errorf("P10.17: Plain or DmaStep at %#x of %s", addr, what)
		}
	}
	b.Idle(1)
	b.Settle(1, 1)
	b.Press(1, 1)
	b.Ack()
	b.Reset()
	if n, i := b.Poll(); n || i || b.Horizon() != 0 || b.Cycle() != 0 || b.Dma() {
		t.Errorf("P10.17: Poll, Horizon, Cycle or Dma of %s", what)
	}
	if b.Log() != nil || b.Stores() != nil || b.Mem() != (api.Mem{}) {
		t.Errorf("P10.17: Log, Stores or Mem of %s", what)
	}
}

func TestNil(t *testing.T) {
	nothing(t, "a nil Bus", nil)
	nothing(t, "a Bus that nobody made", &bus.Bus{})
}

// final is a bus at the end of time, in which all that could happen would be seen.
func final(t *testing.T, turn func(m *api.Mem)) (*bus.Bus, api.Mem) {
	b := turned(t, mmc3(), func(m *api.Mem) {
		*m = anyMem(rand.New(rand.NewSource(1017)), mmc3())
		m.Cycle = api.EndCycle
		m.Dma = api.Dma{On: true, Page: 2, Step: 2}
		m.Board.Guard = 0x80
		m.Board.IrqOn, m.Board.Irq = true, true
		turn(m)
	})
	return b, b.Mem()
}

func TestEndOfTimeAccesses(t *testing.T) {
	b, m := final(t, func(m *api.Mem) {})
	earlier := m
	earlier.Cycle--
	for _, addr := range edges {
		want := from(t, mmc3(), earlier).Read(addr)
		if got := b.Peek(addr); got != want {
			t.Errorf("P10.5: Peek(%#x) at the end of time = %#x, want %#x", addr, got, want)
		}
		if !b.Plain(addr, false) {
			want = 0
		}
		if got := b.Load(addr); got != want {
			t.Errorf("P10.12: Load(%#x) at the end of time = %#x, want %#x", addr, got, want)
		}
		if got := b.Read(addr); got != 0 {
			t.Errorf("P10.17: Read(%#x) at the end of time = %#x", addr, got)
		}
		b.Write(addr, 0x77)
		if a := b.DmaStep(addr); a != (api.Access{}) {
			t.Errorf("P10.17: DmaStep at the end of time makes %+v", a)
		}
	}
	for _, n := range []int{least, -1, 0, 1, 2, greatest} {
		b.Idle(n)
		b.Settle(n, m.Open+1)
	}
	same(t, "P10.17: the end of time", b.Mem(), m)
	if l, s := b.Log(), b.Stores(); len(l) != 0 || len(s) != 0 {
		t.Errorf("P10.17: at the end of time %v is logged, %v stored", l, s)
	}
}

// No cycle is needed for these, so that they do what they always do.
func TestEndOfTimeCalls(t *testing.T) {
	b, m := final(t, func(m *api.Mem) { m.Nmi, m.Pads.Strobe = true, false })
	if b.Cycle() != api.EndCycle || !b.Dma() {
		t.Errorf("P10.7: the end of time: %d, %v", b.Cycle(), b.Dma())
	}
	polled(t, "P10.8: the end of time", b, true, true)
	horizon(t, "the end of time, latch and level standing", b, api.Far)
	b.Ack()
	b.Press(8, 9)
	b.Store(0x0005, 0x31)
	b.Store(0x6005, 0x32)
	m.Nmi, m.Pads.Held, m.Ram[5], m.Work[5] = false, [2]uint8{8, 9}, 0x31, 0x32
	same(t, "P10.12: calls at the end of time", b.Mem(), m)
	if s := b.Stores(); len(s) != 2 || s[0] != 5 || s[1] != 2053 {
		t.Errorf("P10.15: stores at the end of time: %v", s)
	}
	if b.Tag(0x0005) != api.TagRam || b.Place(0x6005) != 2053 || b.Tag(0xffff) != 15 || !b.Plain(0x6005, true) {
		t.Error("P10.14: Tag, Place and Plain at the end of time")
	}
	x := tell(mmc3(), m)
	b.Reset()
	x.Reset()
	same(t, "P10.16: Reset at the end of time", b.Mem(), x.Mem)
	horizon(t, "the end of time, the level standing", b, api.Far)
}

// The last cycle is one like any other.
func TestLastCycle(t *testing.T) {
	for name, do := range map[string]func(b *bus.Bus){
		"Read": func(b *bus.Bus) { b.Read(0) }, "Write": func(b *bus.Bus) { b.Write(0, 9) },
		"Idle": func(b *bus.Bus) { b.Idle(1) }, "Settle": func(b *bus.Bus) { b.Settle(1, 9) }, "DmaStep": func(b *bus.Bus) { b.DmaStep(9) },
	} {
		b := turned(t, nrom(), func(m *api.Mem) { m.Cycle, m.Dma.On = api.EndCycle-1, true })
		do(b)
		m := b.Mem()
		if m.Cycle != api.EndCycle || m.Clock.At != 1 {
			t.Errorf("P10.17: %s in the last cycle: %d", name, m.Cycle)
		}
		do(b)
		same(t, "P10.17: and "+name+" behind it", b.Mem(), m)
	}
}
