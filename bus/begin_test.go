package bus_test

import (
	"bytes"
	"math/rand"
	"testing"

	"tandem/api"
	"tandem/bus"
	"tandem/mapper"
)

func TestNewMemory(t *testing.T) {
	for _, c := range carts() {
		b := fresh(t, c)
		board, _ := mapper.New(c)
		same(t, "P10.1: a new memory", b.Mem(), api.Mem{Board: board})
		if l, s := b.Log(), b.Stores(); len(l) != 0 || len(s) != 0 {
			t.Errorf("P10.1: a new bus has logged %v and stored %v", l, s)
		}
	}
}

func TestTrainer(t *testing.T) {
	for _, n := range []int{0, 1, 511, 512, 513, 5000} {
		for _, ram := range []int{0, 8192} {
			c := nrom()
			c.PrgRam = ram
			c.Trainer = bytes.Repeat([]byte{0xa5}, n)
			m := fresh(t, c).Mem()
			for i, v := range m.Work {
				want := uint8(0)
				if i >= 0x1000 && i < 0x1000+min(n, 512) {
					want = 0xa5
				}
				if v != want {
					t.Fatalf("P10.1: a trainer of %d bytes: Work[%#x] is %#x", n, i, v)
				}
			}
		}
	}
	c := nrom()
	c.Trainer = []byte{7, 8, 9}
	b := fresh(t, c)
	reads(t, "P10.1: the trainer", b, 0x7000, 7)
	reads(t, "P10.1: the trainer", b, 0x7002, 9)
	reads(t, "P10.1: behind the trainer", b, 0x7003, 0)
}

// wrongCarts is cartridges that no board carries.
var wrongCarts = []struct {
	name string
	cart api.Cart
	want api.Errno
}{
	{"no PRG", api.Cart{}, api.ErrBanks},
	{"five bytes of PRG", api.Cart{Prg: make([]byte, 5)}, api.ErrBanks},
	{"a unit of PRG less a byte", api.Cart{Prg: make([]byte, 16383)}, api.ErrBanks},
	{"65 units of PRG", api.Cart{Prg: make([]byte, 65*16384)}, api.ErrBanks},
	{"a byte of CHR", api.Cart{Prg: make([]byte, 16384), Chr: make([]byte, 1)}, api.ErrBanks},
	{"65 units of CHR", api.Cart{Prg: make([]byte, 16384), Chr: make([]byte, 65*8192)}, api.ErrBanks},
	{"mapper 5", api.Cart{Mapper: 5, Prg: make([]byte, 16384)}, api.ErrBoard},
	{"mapper -1", api.Cart{Mapper: -1, Prg: make([]byte, 16384)}, api.ErrBoard},
	{"mapper 0/1", api.Cart{Sub: 1, Prg: make([]byte, 16384)}, api.ErrBoard},
	{"mapper 4/1", api.Cart{Mapper: 4, Sub: 1, Prg: make([]byte, 16384)}, api.ErrBoard},
	{"mapper 9 and no PRG", api.Cart{Mapper: 9}, api.ErrBoard},
}

func TestWrongCarts(t *testing.T) {
	good := fresh(t, nrom()).Mem()
	for _, w := range wrongCarts {
		if b, e := bus.New(w.cart); b != nil || e != w.want {
			t.Errorf("P10.1: New of %s: %v, %d, want %d", w.name, b != nil, e, w.want)
		}
		for _, m := range []api.Mem{good, {}, {Cycle: -1}} {
			if b, e := bus.From(w.cart, m); b != nil || e != w.want {
				t.Errorf("P10.3: From of %s: %v, %d, want %d", w.name, b != nil, e, w.want)
			}
			if bus.Valid(w.cart, m) {
				t.Errorf("P10.2: a memory is valid with %s", w.name)
			}
		}
	}
}

func TestFromGoesOn(t *testing.T) {
	r := rand.New(rand.NewSource(1003))
	for _, c := range carts() {
		for range 30 {
			m := anyMem(r, c)
			b := from(t, c, m)
			same(t, "P10.3: From", b.Mem(), m)
			if l, s := b.Log(), b.Stores(); len(l) != 0 || len(s) != 0 {
				t.Errorf("P10.3: From has logged %v and stored %v", l, s)
			}
		}
	}
}

func TestFromRefuses(t *testing.T) {
	for _, m := range []api.Mem{{}, {Cycle: -1}} {
		if b, e := bus.From(nrom(), m); b != nil || e != api.ErrState {
			t.Errorf("P10.3: From: %v, %d", b != nil, e)
		}
	}
}

// The bytes of a cartridge are copied: neither side sees what the other does to them.
func TestCartIsCopied(t *testing.T) {
	made := func(c api.Cart, whole bool) *bus.Bus {
		if whole {
			return fresh(t, c)
		}
		return from(t, c, fresh(t, c).Mem())
	}
	for _, whole := range []bool{true, false} {
		c := filled(api.Cart{Mapper: api.CNROM, PrgRam: 8192, Trainer: []byte{1, 2, 3}}, 2, 2)
		prg, chr, trainer := bytes.Clone(c.Prg), bytes.Clone(c.Chr), bytes.Clone(c.Trainer)
		b := made(c, whole)
		writes(b, 0x8000, 1, 0xffff, 0, 0x7000, 77, 0x2006, 0, 0x2006, 5, 0x2007, 0xee, 0x2006, 0, 0x2006, 5)
		if !bytes.Equal(c.Prg, prg) || !bytes.Equal(c.Chr, chr) || !bytes.Equal(c.Trainer, trainer) {
			t.Error("P10.1: the cartridge was changed")
		}
		clear(c.Prg)
		clear(c.Chr)
		clear(c.Trainer)
		for _, addr := range []uint16{0x8000, 0x8123, 0xffff} {
			reads(t, "P10.1: PRG is a copy", b, addr, prg[addr-0x8000])
		}
		b.Read(0x2007)
		reads(t, "P10.1: CHR is a copy", b, 0x2007, chr[5])
		reads(t, "P10.1: the trainer is a copy", b, 0x7001, 2)
	}
}

func TestTwoBuses(t *testing.T) {
	c := nrom()
	a, b := fresh(t, c), fresh(t, c)
	m := b.Mem()
	writes(a, 0, 5, 0x6000, 6, 0x2000, 0x80, 0x4014, 3)
	same(t, "P2: the other bus", b.Mem(), m)
	if l, s := b.Log(), b.Stores(); len(l) != 0 || len(s) != 0 {
		t.Errorf("P2: the other bus has logged %v and stored %v", l, s)
	}
	held := a.Mem()
	held.Ram[0] = 99
	if a.Peek(0) != 5 {
		t.Error("P2: what Mem answers is the bus's own")
	}
}
