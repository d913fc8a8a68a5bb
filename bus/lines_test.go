package bus_test

import (
	"math/rand"
	"testing"

	"tandem/api"
	"tandem/bus"
)

func TestPoll(t *testing.T) {
	for _, x := range []struct {
		name     string
		turn     func(m *api.Mem)
		nmi, irq bool
	}{
		{"nothing", func(m *api.Mem) {}, false, false},
		{"the latch", func(m *api.Mem) { m.Nmi = true }, true, false},
		{"the line without the latch", func(m *api.Mem) { m.Raster = api.Raster{Line: 250, Vbl: true, Nmi: true} }, false, false},
		{"the sequencer", func(m *api.Mem) { m.Clock.Frame = true }, false, true},
		{"the timer", func(m *api.Mem) { m.Clock.Flag, m.Clock.Ctl = true, 2 }, false, true},
		{"the timer, which may not ask", func(m *api.Mem) { m.Clock.Flag, m.Clock.Ctl = true, 1 }, false, false},
		{"the board", func(m *api.Mem) { m.Board.IrqOn, m.Board.Irq = true, true }, false, true},
		{"the board, which may ask", func(m *api.Mem) { m.Board.IrqOn = true }, false, false},
		{"all", func(m *api.Mem) { m.Nmi, m.Clock.Frame, m.Board.IrqOn, m.Board.Irq = true, true, true, true }, true, true},
	} {
		b := turned(t, mmc3(), x.turn)
		m := b.Mem()
		polled(t, "P10.8: "+x.name, b, x.nmi, x.irq)
		polled(t, "P10.8: "+x.name+", asked again", b, x.nmi, x.irq)
		same(t, "P10.8: Poll", b.Mem(), m)
		b.Ack()
		m.Nmi = false
		same(t, "P10.8: Ack", b.Mem(), m)
		polled(t, "P10.8: "+x.name+", behind Ack", b, false, x.irq)
	}
}

// A timer that asks behind so many cycles, and a sequencer that never does.
func asksIn(cycles int) api.Clock {
	return api.Clock{Ctl: 0x1b, Count: uint16((cycles+255)/256 - 1), Pre: uint16((cycles+255)/256*256 - cycles), Inhibit: true}
}

// horizons is a cause each.
var horizons = []struct {
	name string
	turn func(m *api.Mem)
	want int
}{
	{"the sequencer", func(m *api.Mem) {}, 29827},
	{"the sequencer, in the next cycle", func(m *api.Mem) { m.Clock.At = 29827 }, 0},
	{"the sequencer, which begins anew", func(m *api.Mem) { m.Clock.At, m.Clock.Wait = 29820, 4 }, 29831},
	{"the timer", func(m *api.Mem) { m.Clock = api.Clock{Ctl: 3, Latch: 9, Count: 2} }, 2},
	{"the timer, in the next cycle", func(m *api.Mem) { m.Clock = api.Clock{Ctl: 3, Latch: 9} }, 0},
	{"the timer, which may not ask", func(m *api.Mem) { m.Clock = api.Clock{Ctl: 1} }, 29827},
	{"the timer, which does not run", func(m *api.Mem) { m.Clock = api.Clock{Ctl: 2} }, 29827},
	{"the timer, ahead of the sequencer", func(m *api.Mem) { m.Clock = api.Clock{Ctl: 0x0b, Count: 99} }, 799},
	{"the line", func(m *api.Mem) { m.Raster.Nmi = true }, 27393},
	{"the line, in the next cycle", func(m *api.Mem) { m.Raster = api.Raster{Line: 240, Dot: 339, Nmi: true} }, 0},
	{"the line, which must fall ahead of it", func(m *api.Mem) {
		m.Clock.Inhibit = true
		m.Raster = api.Raster{Line: 241, Dot: 1, Vbl: true, Nmi: true}
	}, 29780},
	{"the line, held back", func(m *api.Mem) {
		m.Clock.Inhibit = true
		m.Raster = api.Raster{Line: 241, Nmi: true, Hold: true}
	}, 29780},
	{"the line, with the latch set", func(m *api.Mem) { m.Raster.Nmi, m.Nmi = true, true }, 29827},
	{"the line, high, with the latch set", func(m *api.Mem) { m.Raster, m.Nmi = api.Raster{Line: 250, Vbl: true, Nmi: true}, true }, 29827},
	{"the line, with the level high", func(m *api.Mem) { m.Raster.Nmi, m.Clock.Frame = true, true }, 27393},
	{"the board", func(m *api.Mem) { m.Raster.Draw, m.Board.IrqOn, m.Board.IrqCount = true, true, 1 }, 86},
	{"the board, in the next cycle", func(m *api.Mem) {
		m.Raster = api.Raster{Dot: 257, Draw: true}
		m.Board.IrqOn, m.Board.IrqCount = true, 1
	}, 0},
	{"the board, two scanlines on", func(m *api.Mem) { m.Raster.Draw, m.Board.IrqOn, m.Board.IrqLatch = true, true, 1 }, 200},
	{"the board, which may not ask", func(m *api.Mem) { m.Raster.Draw, m.Board.IrqCount = true, 1 }, 29827},
	{"the board, without scanline clocks", func(m *api.Mem) { m.Board.IrqOn, m.Board.IrqCount = true, 1 }, 29827},
	{"the board, which asks already", func(m *api.Mem) { m.Raster.Draw, m.Board.IrqOn, m.Board.Irq = true, true, true }, api.Far},
	{"nothing ever", func(m *api.Mem) { m.Clock.Inhibit = true }, api.Far},
	{"five steps", func(m *api.Mem) { m.Clock.Five = true }, api.Far},
	{"latch and level that stand", func(m *api.Mem) { m.Raster.Nmi, m.Nmi, m.Clock.Frame = true, true, true }, api.Far},
	{"one cycle nearer than Far", func(m *api.Mem) { m.Clock = asksIn(api.Far) }, api.Far - 1},
	{"just Far", func(m *api.Mem) { m.Clock = asksIn(api.Far + 1) }, api.Far},
	{"one cycle beyond Far", func(m *api.Mem) { m.Clock = asksIn(api.Far + 2) }, api.Far},
	{"the end of time", func(m *api.Mem) { m.Cycle = api.EndCycle }, 29827},
	{"a cycle ahead of the end of time", func(m *api.Mem) { m.Cycle, m.Raster.Nmi = api.EndCycle-1, true }, 27393},
	{"DMA", func(m *api.Mem) { m.Dma.On = true }, 29827},
}

func TestHorizon(t *testing.T) {
	for _, h := range horizons {
		b := turned(t, mmc3(), h.turn)
		m := b.Mem()
		horizon(t, h.name, b, h.want)
		same(t, "P10.9: Horizon", b.Mem(), m)
		if got := tell(mmc3(), m).Horizon(api.Far); got != h.want {
			t.Errorf("P10.9: %s: cycle by cycle it is %d, want %d", h.name, got, h.want)
		}
	}
}

// reached asks that Poll stays up to the horizon, and is another in the cycle behind it.
func reached(t *testing.T, what string, b *bus.Bus) {
	t.Helper()
	n := b.Horizon()
	m := b.Mem()
	nmi, irq := b.Poll()
	if n < 0 || n > api.Far {
		t.Fatalf("P10.9: %s: the horizon is %d", what, n)
	}
	if n > 0 {
		b.Idle(n)
		polled(t, "P10.9: "+what+": at the horizon", b, nmi, irq)
	}
	if n == api.Far {
		return
	}
	b.Idle(1)
	if x, y := b.Poll(); x == nmi && y == irq {
		t.Errorf("P10.9: %s: nothing is another behind %d cycles: %+v, %+v, %+v", what, n+1, m.Board, m.Clock, m.Raster)
	}
}

func TestAnyHorizon(t *testing.T) {
	r := rand.New(rand.NewSource(1009))
	for i, c := range carts() {
		for range 200 {
			m := anyMem(r, c)
			b := from(t, c, m)
			n := b.Horizon()
			const bound = 3000
			if got := tell(c, m).Horizon(bound); got != min(n, bound) {
				t.Errorf("P10.9: cartridge %d: Horizon() = %d, cycle by cycle %d: %+v, %+v, %+v", i, n, got, m.Board, m.Clock, m.Raster)
			}
			reached(t, "any memory", b)
		}
	}
}
