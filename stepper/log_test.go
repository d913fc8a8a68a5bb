package stepper_test

import (
	"math/rand"
	"slices"
	"testing"

	"tandem/api"
)

// Log is all device accesses among those that Tick tells, and no others.
func TestLog(t *testing.T) {
	r := rand.New(rand.NewSource(1105))
	for _, c := range carts() {
		for range 10 {
			m := from(t, c, anyState(r, c))
			var want []api.Access
			for i := range 3000 {
				a, ok := m.Tick()
				if ok && (a.Addr >= 0x2000 && a.Addr < 0x6000 || a.Addr >= 0x8000 && a.Write) {
					want = append(want, a)
				}
				if i%700 == 699 {
					if l := m.Log(); !slices.Equal(l, want) {
						t.Fatalf("Logs: %d accesses, want %d", len(l), len(want))
					}
					want = nil
					if l := m.Log(); len(l) != 0 {
						t.Fatalf("Logs: %d accesses right behind Log", len(l))
					}
				}
			}
		}
	}
}

// An event is listed when its seventh cycle is done, and no earlier.
func TestEventsAreListedAtTheirEnd(t *testing.T) {
	for name, m := range kinds(t, func(s *api.State) { s.Mem.Cycle = 9 }) {
		for k := range 6 {
			m.Tick()
			if l := m.Events(); len(l) != 0 {
				t.Errorf("Logs: %s is listed behind %d cycles", name, k+1)
			}
		}
		m.Tick()
		want := map[string]api.Event{
			"BRK":   {Cycle: 9, Kind: api.EventBrk, PC: 0x8002, P: 0x34, Vector: 0xfffe},
			"IRQ":   {Cycle: 9, Kind: api.EventIrq, PC: 0x8000, P: 0x24, Vector: 0xfffe},
			"NMI":   {Cycle: 9, Kind: api.EventNmi, PC: 0x8000, P: 0x24, Vector: 0xfffa},
			"reset": {Cycle: 9, Kind: api.EventReset, Vector: 0xfffc},
		}[name]
		events(t, "Logs", m, want)
		events(t, "Logs: and begins anew", m)
	}
}

// Events come in order, and since the last time.
func TestEventsInOrder(t *testing.T) {
	c := console(0x00)
	copy(c.Prg[0x2000:], []byte{0x00})                // $A000: another BRK
	copy(c.Prg[0x1000:], []byte{0x40})                // $9000: RTI
	m := at(t, c, func(s *api.State) { nmiIn(s, 9) }) // within the second BRK
	m.Run(14)
	events(t, "Logs", m,
		api.Event{Cycle: 0, Kind: api.EventBrk, PC: 0x8002, P: 0x34, Vector: 0xfffe},
		api.Event{Cycle: 7, Kind: api.EventBrk, PC: 0xa002, P: 0x34, Vector: 0xfffa})
	m.Run(6)
	m.Reset()
	m.Run(7)
	events(t, "Logs", m, api.Event{Cycle: 20, Kind: api.EventReset, Vector: 0xfffc})
}

// Lists of an answer are new memory, their spare room too.
func TestListsAreNew(t *testing.T) {
	c := console(0x8d, 0x00, 0x20, 0x00)
	copy(c.Prg[0x2000:], []byte{0x8d, 0x01, 0x20, 0x00})
	one, two := begun(t, c), begun(t, c)
	for range 20 {
		one.Run(33)
		two.Run(33)
		l, k := one.Log(), one.Events()
		if !slices.Equal(l, two.Log()) || !slices.Equal(k, two.Events()) {
			t.Fatal("11.5: what is done to a list that was answered is seen later")
		}
		for i := range l[:cap(l)] {
			l[:cap(l)][i] = api.Access{Cycle: -1}
		}
		for i := range k[:cap(k)] {
			k[:cap(k)][i] = api.Event{Cycle: -1}
		}
	}
}
