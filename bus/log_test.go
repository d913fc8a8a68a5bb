package bus_test

import (
	"slices"
	"testing"

	"tandem/api"
)

func TestLog(t *testing.T) {
	b := fresh(t, nrom())
	b.Write(0x0010, 0x5a)
	b.Read(0x1fff)
	b.Read(0x0010)
	b.Read(0x4000)
	b.Write(0x2000, 1)
	b.Idle(10)
	b.Read(0x3fff)
	b.Write(0x5fff, 2)
	b.Write(0x6000, 3)
	b.Read(0x6000)
	b.Read(0x8000)
	b.Write(0x8000, 4)
	b.Write(0xffff, 5)
	b.Read(0xffff)
	b.Peek(0x2002)
	b.Load(0x2002)
	b.Store(0x2000, 1)
	b.Settle(5, 9)
	b.Press(1, 2)
	b.Write(0x4014, 6)
	b.DmaStep(0x4015)
	b.DmaStep(0x0000)
	b.Reset()
	want := []api.Access{
		{Cycle: 3, Addr: 0x4000, Val: 0x5a},
		{Cycle: 4, Addr: 0x2000, Val: 1, Write: true},
		{Cycle: 15, Addr: 0x3fff, Val: 0},
		{Cycle: 16, Addr: 0x5fff, Val: 2, Write: true},
		{Cycle: 20, Addr: 0x8000, Val: 4, Write: true},
		{Cycle: 21, Addr: 0xffff, Val: 5, Write: true},
		{Cycle: 28, Addr: 0x4014, Val: 6, Write: true},
		{Cycle: 29, Addr: 0x4015, Val: 6},
	}
	if l := b.Log(); !slices.Equal(l, want) {
		t.Errorf("P10.15: Log() = %+v, want %+v", l, want)
	}
	if l := b.Log(); len(l) != 0 {
		t.Errorf("P10.15: the log begins anew with %v", l)
	}
}

// What was answered stays as it is, whatever comes behind it, and may be changed.
func TestAnswersAreNew(t *testing.T) {
	b := fresh(t, nrom())
	for round := range 5 {
		writes(b, 0x2000, round, 0x2001, 2, 0x4000, 3, 0x0005, 4, 0x0006, 5)
		l, s := b.Log(), b.Stores()
		held, kept := slices.Clone(l), slices.Clone(s)
		first := append(l, api.Access{Cycle: 77})
		second := append(s, 77)
		for i := range 9 {
			b.Write(0x2003, uint8(i))
			b.Write(0x0100, uint8(i))
		}
		if !slices.Equal(l, held) || !slices.Equal(s, kept) || first[len(first)-1].Cycle != 77 || second[len(second)-1] != 77 {
			t.Errorf("P2: an answer was changed: %v, %v", l, s)
		}
		clear(l[:cap(l)])
		clear(s[:cap(s)])
		for i, a := range b.Log() {
			if a.Addr != 0x2003 || int(a.Val) != i {
				t.Errorf("P2: access %d is %+v", i, a)
			}
		}
		if s := b.Stores(); !slices.Equal(s, []int{256, 256, 256, 256, 256, 256, 256, 256}) {
			t.Errorf("P2: the stores are %v", s)
		}
	}
}

func TestStores(t *testing.T) {
	b := fresh(t, nrom())
	stored := func(what string, want ...int) {
		t.Helper()
		if s := b.Stores(); !slices.Equal(s, want) {
			t.Errorf("P10.15: %s: Stores() = %v, want %v", what, s, want)
		}
		if s := b.Stores(); len(s) != 0 {
			t.Errorf("P10.15: the list begins anew with %v", s)
		}
	}
	stored("none")
	b.Write(0x0005, 0)
	stored("a byte that was that before", 5)
	b.Store(0x1805, 1)
	b.Write(0x1fff, 1)
	b.Write(0x6000, 1)
	b.Store(0x7fff, 1)
	b.Write(0x0005, 2)
	stored("a place twice", 5, 2047, 2048, 10239, 5)
	for _, addr := range []uint16{0x2000, 0x2004, 0x4000, 0x4014, 0x4016, 0x4017, 0x401b, 0x5fff, 0x8000, 0xffff} {
		b.Write(addr, 0)
		b.Store(addr, 0)
		b.Read(addr)
		b.Load(addr)
	}
	b.Read(0)
	b.Load(0x6000)
	b.Peek(0)
	b.Idle(5)
	b.Settle(5, 1)
	stored("no stores")
	for i := range 8 {
		b.Store(uint16(i), 0)
	}
	stored("eight", 0, 1, 2, 3, 4, 5, 6, 7)
	for i := range 9 {
		b.Write(uint16(i), 0)
	}
	stored("nine", 1, 2, 3, 4, 5, 6, 7, 8)
	for i := range 3000 {
		b.Store(uint16(i), 0)
	}
	stored("three thousand", 944, 945, 946, 947, 948, 949, 950, 951)
	b.Write(0x4014, 0)
	for b.Dma() {
		b.DmaStep(0)
	}
	stored("DMA")
}

func TestStoresOfWorkRam(t *testing.T) {
	for mode, b := range workModes(t) {
		b.Write(0x6001, 0)
		b.Store(0x6002, 0)
		want := []int{}
		if mode == 2 {
			want = []int{2049, 2050}
		}
		if s := b.Stores(); !slices.Equal(s, want) {
			t.Errorf("P10.15: mode %d: Stores() = %v, want %v", mode, s, want)
		}
	}
}
