package interp_test

import (
	"math/rand"
	"slices"
	"testing"

	"tandem/api"
	"tandem/stepper"
)

// Log is all device accesses among those that the stepper's Ticks tell, and no others; and it begins anew.
func TestLog(t *testing.T) {
	r := rand.New(rand.NewSource(1205))
	for _, c := range carts() {
		for range 10 {
			s := anyState(r, c)
			m := from(t, c, s)
			x, _ := stepper.From(c, s)
			for range 4 {
				var want []api.Access
				n, _ := m.Play(api.Turn{Budget: 700})
				x.Press(0, 0)
				for range n {
					a, ok := x.Tick()
					if ok && (a.Addr >= 0x2000 && a.Addr < 0x6000 || a.Addr >= 0x8000 && a.Write) {
						want = append(want, a)
					}
				}
				logs(t, "P12.6: Log", m, want...)
				logs(t, "P12.6: right behind Log", m)
			}
		}
	}
}

// Events come in order, and since the last time.
func TestEventsInOrder(t *testing.T) {
	c := console(0x00)
	copy(c.Prg[0x2000:], []byte{0x00})                // $A000: another BRK
	copy(c.Prg[0x1000:], []byte{0x40})                // $9000: RTI
	m := at(t, c, func(s *api.State) { nmiIn(s, 9) }) // within the second BRK
	steps(t, "P12.6: two BRKs", m, 7, 7)
	events(t, "P12.6: two BRKs", m,
		api.Event{Cycle: 0, Kind: api.EventBrk, PC: 0x8002, P: 0x34, Vector: 0xfffe},
		api.Event{Cycle: 7, Kind: api.EventBrk, PC: 0xa002, P: 0x34, Vector: 0xfffa})
	steps(t, "P12.6: RTI", m, 6)
	events(t, "P12.6: RTI", m)
	m.Reset()
	events(t, "P12.6: the button alone", m)
	steps(t, "P12.6: a reset", m, 7, 7)
	events(t, "P12.6: a reset and a BRK", m,
		api.Event{Cycle: 20, Kind: api.EventReset, Vector: 0xfffc},
		api.Event{Cycle: 27, Kind: api.EventBrk, PC: 0x8002, P: 0x34, Vector: 0xfffe})
	events(t, "P12.6: right behind Events", m)
}

// Lists of an answer are new memory, their spare room too: they stay as they are, and what is done to them is not seen.
func TestListsAreNew(t *testing.T) {
	c := console(0x8d, 0x00, 0x20, 0x00)
	copy(c.Prg[0x2000:], []byte{0x8d, 0x01, 0x20, 0x00})
	r := rand.New(rand.NewSource(1206))
	one, two := begun(t, c), begun(t, c)
	var l, oldL []api.Access
	var k, oldK []api.Event
	for range 100 {
		turn := api.Turn{Budget: some(r, uint32(22), 33, 55, 99)} // so that what is new often fits into the spare room of what is old
		one.Play(turn)
		two.Play(turn)
		if !slices.Equal(l, oldL) || !slices.Equal(k, oldK) {
			t.Fatal("P2: a list that was answered changes later")
		}
		for i := range l[:cap(l)] {
			l[:cap(l)][i] = api.Access{Cycle: -1}
		}
		for i := range k[:cap(k)] {
			k[:cap(k)][i] = api.Event{Cycle: -1}
		}
		l, k = one.Log(), one.Events()
		oldL, oldK = two.Log(), two.Events()
		if !slices.Equal(l, oldL) || !slices.Equal(k, oldK) || len(l) == 0 || len(k) == 0 {
			t.Fatal("P2: what is done to a list that was answered is seen later")
		}
	}
}
