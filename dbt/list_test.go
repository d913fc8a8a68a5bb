package dbt_test

import (
	"slices"
	"testing"

	"tandem/api"
	"tandem/dbt"
)

// busy is a program with accesses, events and blocks.
func busy() api.Cart {
	c := console(0xa2, 0x04, 0x8e, 0x00, 0x20, 0x00, 0xea, 0xca, 0xd0, 0xf8, 0x4c, 0x00, 0x80)
	copy(c.Prg[0x2000:], []uint8{0xe6, 0x10, 0x40}) // $A000: INC $10, RTI
	return c
}

// Lists begin anew when they were asked for, each for itself.
func TestLists(t *testing.T) {
	m := begun(t, busy(), 16, 8)
	m.Play(api.Turn{Budget: 300})
	for what, n := range map[string]int{"Log": len(m.Log()), "Events": len(m.Events()), "Entries": len(m.Entries())} {
		if n < 2 {
			t.Errorf("P15.6: %s: %d, too few to tell", what, n)
		}
	}
	if a, b, c := m.Log(), m.Events(), m.Entries(); len(a) != 0 || len(b) != 0 || len(c) != 0 {
		t.Errorf("P15.6: lists that were just asked for: %v, %v, %v", a, b, c)
	}
	s := m.Stats()
	m.Play(api.Turn{Budget: 300})
	if n := len(m.Entries()); n != m.Stats().Blocks-s.Blocks || n == 0 {
		t.Errorf("P15.6: %d entries, %+v and then %+v", n, s, m.Stats())
	}
}

// Lists asked for at each pass are, one behind the other, those asked for at the end.
func TestListsInParts(t *testing.T) {
	for _, c := range append(carts(), busy()) {
		m, k := begun(t, c, 16, 8), begun(t, c, 16, 8)
		var accesses []api.Access
		var events []api.Event
		var list []api.Entry
		for i := range 400 {
			m.Pass(100)
			k.Pass(100)
			if i%3 > 0 {
				accesses, events, list = append(accesses, k.Log()...), append(events, k.Events()...), append(list, k.Entries()...)
			}
		}
		accesses, events, list = append(accesses, k.Log()...), append(events, k.Events()...), append(list, k.Entries()...)
		entries(t, "P15.6: in parts", m, list...)
		if !slices.Equal(m.Log(), accesses) || !slices.Equal(m.Events(), events) {
			t.Error("P15.6: logs in parts")
		}
	}
}

// scratch asks for all lists, writes over them and over their spare room.
func scratch(m *dbt.Machine) {
	over(m.Keys(), api.Key{PC: 0xdead, Tag: 77})
	over(m.Entries(), api.Entry{Cycle: -1, Bytes: "x"})
	over(m.Log(), api.Access{Cycle: -1})
	over(m.Events(), api.Event{Cycle: -1})
}

func over[T any](l []T, v T) {
	l = l[:cap(l)]
	for i := range l {
		l[i] = v
	}
}

// lists is all that a machine lists, and copies of that.
type lists struct {
	keys, keysThen         []api.Key
	entries, entriesThen   []api.Entry
	accesses, accessesThen []api.Access
	events, eventsThen     []api.Event
}

func listsOf(m *dbt.Machine) lists {
	l := lists{keys: m.Keys(), entries: m.Entries(), accesses: m.Log(), events: m.Events()}
	l.keysThen, l.entriesThen = slices.Clone(l.keys), slices.Clone(l.entries)
	l.accessesThen, l.eventsThen = slices.Clone(l.accesses), slices.Clone(l.events)
	return l
}

// Lists that were handed out stay as they are, whatever the machine does, and it stays as it is, whatever is done to them then.
func TestListsHandedOut(t *testing.T) {
	for _, c := range append(carts(), busy()) {
		m, k := begun(t, c, 16, 8), begun(t, c, 16, 8)
		for range 40 {
			turn := api.Turn{Budget: 300}
			m.Play(turn)
			l := listsOf(m)
			m.Play(turn)
			if !slices.Equal(l.keys, l.keysThen) || !slices.Equal(l.entries, l.entriesThen) || !slices.Equal(l.accesses, l.accessesThen) || !slices.Equal(l.events, l.eventsThen) {
				t.Fatal("P2: a list that was handed out has changed")
			}
			over(l.keys, api.Key{PC: 0xdead, Tag: 77})
			over(l.entries, api.Entry{Cycle: -1})
			over(l.accesses, api.Access{Cycle: -1})
			over(l.events, api.Event{Cycle: -1})
			k.Play(turn)
			listsOf(k)
			k.Play(turn)
			got, want := listsOf(m), listsOf(k)
			if !slices.Equal(got.keys, want.keys) || !slices.Equal(got.entries, want.entries) || !slices.Equal(got.accesses, want.accesses) || !slices.Equal(got.events, want.events) {
				t.Fatal("P2: lists behind a list that was written over")
			}
		}
	}
}

// What is done to lists that were handed out, or in, changes nothing in the machine.
func TestListsWrittenOver(t *testing.T) {
	for _, c := range append(carts(), busy()) {
		m, k := begun(t, c, 16, 8), begun(t, c, 16, 8)
		for i := range 300 {
			pass(t, "P2: lists written over", m, 100, k.Pass(100))
			if i%7 == 0 {
				pcs := []uint16{0x8000, 0x9000, 0xc000, 0x0200}
				m.Warm(pcs, 3)
				over(pcs, 0x8123)
				k.Warm([]uint16{0x8000, 0x9000, 0xc000, 0x0200}, 3)
			}
			scratch(m)
			k.Log()
			k.Events()
			k.Entries()
			pass(t, "P2: lists written over", m, 100, k.Pass(100))
			entries(t, "P2: lists written over", m, k.Entries()...)
			if !slices.Equal(m.Log(), k.Log()) || !slices.Equal(m.Events(), k.Events()) {
				t.Fatal("P2: logs behind lists written over")
			}
		}
		keys(t, "P2: lists written over", m, k.Keys()...)
		stats(t, "P2: lists written over", m, k.Stats())
		sameState(t, "P2: lists written over", m, k.State())
	}
}

// Keys are in order, by PC and then by Tag.
func TestKeysInOrder(t *testing.T) {
	g := powered(t, carts()[6], 65536, 4)
	for range 4 {
		g.warm("P15.6: order", everywhere()[0x7fe0:0x8100], 2)
		g.warm("P15.6: order", everywhere()[0xc000:0xc100], 2)
		for range 500 {
			g.pass("P15.6: order", 1000)
		}
	}
	l := g.m.Keys()
	if !slices.IsSortedFunc(l, func(a, b api.Key) int {
		if a.PC != b.PC {
			return int(a.PC) - int(b.PC)
		}
		return a.Tag - b.Tag
	}) || len(l) < 300 {
		t.Errorf("P15.6: %d keys: %v", len(l), l)
	}
	g.holds("P15.6: order")
}

// Every method of a machine that nobody made.
func TestNil(t *testing.T) {
	for what, m := range map[string]*dbt.Machine{"a nil Machine": nil, "a Machine that nobody made": {}} {
		for range 3 {
			for _, left := range []int{-1, 0, 1, 1000, 1<<63 - 1} {
				if n := m.Pass(left); n != 0 {
					t.Errorf("P15.11: Pass of %s: %d", what, n)
				}
			}
			plays(t, "P15.11: "+what, m, api.Turn{}, 0, api.OK)
			plays(t, "P15.11: "+what, m, api.Turn{Budget: 1<<32 - 1, One: 1, Reset: true, Flush: true}, 0, api.OK)
			if e := m.Reset(); e != api.OK {
				t.Errorf("P15.11: Reset of %s: %d", what, e)
			}
			for _, n := range []int{0, 1, 65536, 65537} {
				for _, workers := range []int{-1, 0, 1, 16, 17} {
					warms(t, "P15.11: "+what, m, make([]uint16, n), workers, 0, api.OK)
				}
			}
			m.Press(1, 2)
			m.Flush()
			if m.State() != (api.State{}) || m.Stats() != (api.Stats{}) {
				t.Errorf("P15.11: State or Stats of %s", what)
			}
			if m.Keys() != nil || m.Entries() != nil || m.Log() != nil || m.Events() != nil {
				t.Errorf("P15.11: lists of %s", what)
			}
		}
	}
}
