package pads_test

import (
	"math/rand"
	"testing"

	"tandem/api"
	"tandem/pads"
)

// bits is n reads of a port as digits, and the pads behind them.
func bits(p api.Pads, port, n int) (string, api.Pads) {
	text := ""
	for range n {
		var got uint8
		got, p = pads.Read(p, port)
		text += string('0' + rune(got))
	}
	return text, p
}

func TestNewPads(t *testing.T) {
	for port := range 2 {
		if got, _ := bits(api.Pads{}, port, 12); got != "000000001111" {
			t.Errorf("P9.1: reads of port %d of new pads give %s", port, got)
		}
	}
}

func TestSet(t *testing.T) {
	p := api.Pads{Held: [2]uint8{1, 2}, Shift: [2]uint8{3, 4}}
	if got, want := pads.Set(p, 5, 6), (api.Pads{Held: [2]uint8{5, 6}, Shift: [2]uint8{3, 4}}); got != want {
		t.Errorf("P9.2: with the strobe low: %+v, want %+v", got, want)
	}
	p.Strobe = true
	if got, want := pads.Set(p, 5, 6), (api.Pads{Strobe: true, Held: [2]uint8{5, 6}, Shift: [2]uint8{5, 6}}); got != want {
		t.Errorf("P9.2: with the strobe high: %+v, want %+v", got, want)
	}
	r := rand.New(rand.NewSource(920))
	for one := range 256 {
		for two := range 256 {
			p := anyPads(r)
			want := p
			want.Held[0], want.Held[1] = uint8(one), uint8(two)
			if p.Strobe {
				want.Shift[0], want.Shift[1] = uint8(one), uint8(two)
			}
			if got := pads.Set(p, uint8(one), uint8(two)); got != want {
				t.Fatalf("P9.2: Set(%+v, %#x, %#x) = %+v, want %+v", p, one, two, got, want)
			}
		}
	}
}

func TestWrite(t *testing.T) {
	low := api.Pads{Held: [2]uint8{1, 2}, Shift: [2]uint8{3, 4}}
	high := api.Pads{Strobe: true, Held: [2]uint8{1, 2}, Shift: [2]uint8{3, 4}}
	for v := range 256 {
		fromLow, fromHigh := low, api.Pads{Held: [2]uint8{1, 2}, Shift: [2]uint8{1, 2}}
		if v%2 == 1 {
			fromLow = api.Pads{Strobe: true, Held: [2]uint8{1, 2}, Shift: [2]uint8{1, 2}}
			fromHigh = fromLow
		}
		if got := pads.Write(low, uint8(v)); got != fromLow {
			t.Errorf("P9.3: Write of %#x with the strobe low: %+v, want %+v", v, got, fromLow)
		}
		if got := pads.Write(high, uint8(v)); got != fromHigh {
			t.Errorf("P9.3: Write of %#x with the strobe high: %+v, want %+v", v, got, fromHigh)
		}
	}
}

func TestReadLow(t *testing.T) {
	for port := range 2 {
		for shift := range 256 {
			p := api.Pads{Held: [2]uint8{uint8(^shift), uint8(^shift)}, Shift: [2]uint8{0x2a, 0x2a}}
			p.Shift[port] = uint8(shift)
			want := p
			want.Shift[port] = uint8(shift/2 + 128)
			got, q := pads.Read(p, port)
			if got != uint8(shift%2) || q != want {
				t.Errorf("P9.4: Read(%+v, %d) = %d, %+v, want %d, %+v", p, port, got, q, shift%2, want)
			}
		}
	}
}

func TestReadHigh(t *testing.T) {
	for port := range 2 {
		for held := range 256 {
			p := api.Pads{Strobe: true, Held: [2]uint8{uint8(^held), uint8(^held)}, Shift: [2]uint8{uint8(^held), uint8(^held)}}
			p.Held[port] = uint8(held)
			got, q := pads.Read(p, port)
			if got != uint8(held%2) || q != p {
				t.Errorf("P9.4: Read(%+v, %d) = %d, %+v, want %d and the same", p, port, got, q, held%2)
			}
		}
	}
}

func TestReadOtherPorts(t *testing.T) {
	full := api.Pads{Held: [2]uint8{255, 255}, Shift: [2]uint8{255, 255}}
	for _, strobe := range []bool{false, true} {
		full.Strobe = strobe
		for _, port := range []int{-1, 2, 3, 8, 255, 256, 1 << 32, 1<<32 + 1, 1<<63 - 1, -1 << 63} {
			if got, q := pads.Read(full, port); got != 0 || q != full {
				t.Errorf("P9.4: Read of port %d gives %d, %+v", port, got, q)
			}
		}
	}
}

// TestStrobe: what is held at Write(0) comes out bit by bit, whatever is pressed and read of the other port in between.
func TestStrobe(t *testing.T) {
	r := rand.New(rand.NewSource(950))
	for one := range 256 {
		held := [2]uint8{uint8(one), uint8(r.Intn(256))}
		p := pads.Write(anyPads(r), uint8(1|r.Intn(256)))
		p = pads.Set(p, uint8(r.Intn(256)), uint8(r.Intn(256)))
		p = pads.Set(p, held[0], held[1])
		p = pads.Write(p, uint8(2*r.Intn(128)))
		var seen [2]int
		for seen[0] < 30 || seen[1] < 30 {
			p = pads.Set(p, uint8(r.Intn(256)), uint8(r.Intn(256)))
			p = pads.Write(p, uint8(2*r.Intn(128)))
			port := r.Intn(2)
			want := uint8(1)
			if seen[port] < 8 {
				want = held[port] >> seen[port] & 1
			}
			var got uint8
			got, p = pads.Read(p, port)
			seen[port]++
			if got != want {
				t.Fatalf("P9.5: of %#x read number %d of port %d gives %d, want %d", held[port], seen[port], port, got, want)
			}
		}
	}
}

// TestButtons: each button at its place.
func TestButtons(t *testing.T) {
	for i, name := range []string{"A", "B", "Select", "Start", "Up", "Down", "Left", "Right"} {
		for port := range 2 {
			var held [2]uint8
			held[port] = 1 << i
			p := pads.Write(pads.Write(pads.Set(api.Pads{}, held[0], held[1]), 1), 0)
			want := []byte("0000000011")
			want[i] = '1'
			if got, _ := bits(p, port, 10); got != string(want) {
				t.Errorf("P9.5: %s of pad %d: %s, want %s", name, port, got, want)
			}
			if got, _ := bits(p, 1-port, 10); got != "0000000011" {
				t.Errorf("P9.5: %s of pad %d, the other port: %s", name, port, got)
			}
		}
	}
}

// TestPortTold holds any calls one behind the other against the second form.
func TestPortTold(t *testing.T) {
	r := rand.New(rand.NewSource(951))
	for range 2000 {
		p := anyPads(r)
		var x [2]toldPort
		for port := range x {
			x[port] = toldPort{strobe: p.Strobe, held: p.Held[port], taken: p.Shift[port]}
		}
		for range 60 {
			a, b := uint8(r.Intn(256)), uint8(r.Intn(256))
			switch r.Intn(8) {
			case 0:
				p = pads.Set(p, a, b)
				x[0].set(a)
				x[1].set(b)
			case 1:
				p = pads.Write(p, a)
				x[0].write(a)
				x[1].write(a)
			default:
				port := r.Intn(2)
				var got uint8
				got, p = pads.Read(p, port)
				if want := x[port].read(); got != want {
					t.Fatalf("P9.4: a read of port %d gives %d, want %d", port, got, want)
				}
			}
			want := api.Pads{Strobe: x[0].strobe, Held: [2]uint8{x[0].held, x[1].held}, Shift: [2]uint8{x[0].shift(), x[1].shift()}}
			if p != want {
				t.Fatalf("P9.2 to P9.4: the pads are %+v, want %+v", p, want)
			}
		}
	}
}
