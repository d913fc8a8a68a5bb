package cart_test

import (
	"hash/crc32"
	"math/rand"
	"testing"

	"tandem/api"
	"tandem/cart"
)

func TestCrc(t *testing.T) {
	for text, want := range map[string]uint32{"": 0, "123456789": 0xcbf43926, "a": 0xe8b7be43, "\x00": 0xd202ef8d, "\xff": 0xff000000} {
		if got := cart.Crc([]byte(text)); got != want {
			t.Errorf("P1.6: Crc of %q: %#x, want %#x", text, got, want)
		}
	}
	if cart.Crc(nil) != 0 {
		t.Error("P1.6: Crc of nil")
	}
	for b := range 256 {
		if l := []byte{byte(b)}; cart.Crc(l) != crc32.ChecksumIEEE(l) {
			t.Errorf("P1.6: Crc of the byte %#x", b)
		}
	}
	dice := rand.New(rand.NewSource(5))
	for n := range 300 {
		l := make([]byte, n*n)
		dice.Read(l)
		if cart.Crc(l) != crc32.ChecksumIEEE(l) {
			t.Fatalf("P1.6: Crc of %d bytes", len(l))
		}
	}
}

func TestSum(t *testing.T) {
	for _, r := range []struct {
		name string
		c    api.Cart
		want uint32
	}{
		{"PRG ahead of CHR", api.Cart{Prg: []byte("12345"), Chr: []byte("6789")}, 0xcbf43926},
		{"PRG alone", api.Cart{Prg: []byte("123456789"), Chr: []byte{}}, 0xcbf43926},
		{"CHR alone", api.Cart{Chr: []byte("123456789")}, 0xcbf43926},
		{"neither", api.Cart{}, 0},
		{"nothing else", api.Cart{Format: -5, Mapper: 7, Trainer: []byte("t"), Prg: []byte("1234567"), Chr: []byte("89"), Rest: []byte("r")}, 0xcbf43926},
	} {
		if got := cart.Sum(r.c); got != r.want {
			t.Errorf("P1.6: Sum, %s: %#x, want %#x", r.name, got, r.want)
		}
	}
	c := nes2()
	if cart.Sum(c) != crc32.Update(crc32.ChecksumIEEE(c.Prg), crc32.IEEETable, c.Chr) {
		t.Error("P1.6: Sum of a whole cartridge")
	}
}
