package cart_test

import (
	"bytes"
	"math/big"
	"math/rand"
	"testing"

	"tandem/api"
	"tandem/cart"
)

// TestParseExamples: every row of the chapter's examples.
func TestParseExamples(t *testing.T) {
	for _, r := range []struct {
		name  string
		image []byte
		e     api.Errno
		at    int
	}{
		{"no bytes", nil, api.ErrShort, 0},
		{"no bytes, a list", []byte{}, api.ErrShort, 0},
		{"4E 45 54", []byte{0x4e, 0x45, 0x54}, api.ErrMagic, 2},
		{"4E 45", []byte{0x4e, 0x45}, api.ErrShort, 2},
		{"4E 45 53 1A 01", []byte{0x4e, 0x45, 0x53, 0x1a, 1}, api.ErrShort, 5},
		{"console 3", head(1, 0, 0, 3), api.ErrReserved, 7},
		{"no PRG", head(), api.ErrPrg, 4},
		{"cut in CHR", image(head(1, 1), 20000), api.ErrShort, 20016},
		{"5 times 8192", image(head(0x36, 0, 0x40, 8, 0x10, 0x0f, 0x70, 7), 24576), api.ErrShort, 24592},
		{"a tail", image(head(1, 0, 0, 8), 16385), api.ErrTail, 16400},
		{"2 to the power of 63", head(0xfc, 0, 0, 8, 0, 0x0f), api.ErrPrg, 4},
		{"console 2", image(head(1, 0, 0, 2), 16384), api.ErrShort, 16400},
	} {
		c, e, at := cart.Parse(r.image)
		wantRefused(t, "P1.1: "+r.name, c, e, at, r.e, r.at)
	}
	for _, r := range []struct {
		name  string
		image []byte
		want  api.Cart
	}{
		{"iNES", image(head(1), 16384), api.Cart{Format: 1, PrgRam: 8192, ChrRam: 8192}},
		{"archaic", image(head(1, 0, 0x12, 0x44, 0x69, 0x73, 0x6b, 0x44, 0x75, 0x64, 0x65, 0x21), 16384), api.Cart{Mapper: 1, Battery: true, PrgNv: 8192, ChrRam: 8192}},
		{"3 times 8192", image(head(0x35, 0, 0x40, 8, 0x10, 0x0f, 0x70, 7), 24576), api.Cart{Format: 2, Mapper: 4, Sub: 1, PrgNv: 8192, ChrRam: 8192}},
	} {
		r.want.Prg = r.image[16:]
		c, e, at := cart.Parse(r.image)
		if e != api.OK || at != 0 || !same(c, r.want) {
			t.Errorf("P1.1: %s: %d, %d, %+v", r.name, e, at, plain(c))
		}
	}
}

// TestParseFields: every bit of a header in its field.
func TestParseFields(t *testing.T) {
	for _, r := range []struct {
		name string
		head []byte
		want api.Cart
	}{
		{"archaic by bits 3 and 2 of b7: 0 1", head(1, 1, 0xf0, 0xf4, 9, 9, 9, 9), api.Cart{Mapper: 15, PrgRam: 8192}},
		{"archaic by bits 3 and 2 of b7: 1 1", head(1, 0, 0x09, 0xff, 9, 9, 9, 9), api.Cart{Vert: true, Four: true, PrgRam: 8192, ChrRam: 8192}},
		{"archaic by b12", head(1, 0, 2, 3, 9, 9, 9, 9, 1), api.Cart{Battery: true, PrgNv: 8192, ChrRam: 8192}},
		{"archaic by b13", head(1, 0, 0, 0xf0, 9, 9, 9, 9, 0, 1), api.Cart{PrgRam: 8192, ChrRam: 8192}},
		{"archaic by b14", head(1, 0, 0, 0xf0, 9, 9, 9, 9, 0, 0, 1), api.Cart{PrgRam: 8192, ChrRam: 8192}},
		{"archaic by b15", head(1, 0, 0, 0xf0, 9, 9, 9, 9, 0, 0, 0, 1), api.Cart{PrgRam: 8192, ChrRam: 8192}},
		{"iNES, all it has", head(2, 1, 0x51, 0xa1, 255, 1), api.Cart{Format: 1, Mapper: 0xa5, Vert: true, Console: 1, Timing: 1, PrgRam: 255 * 8192}},
		{"iNES with a battery", head(1, 0, 2, 0, 2), api.Cart{Format: 1, Battery: true, PrgNv: 16384, ChrRam: 8192}},
		{"iNES, one unit told", head(1, 0, 8, 0, 1), api.Cart{Format: 1, Four: true, PrgRam: 8192, ChrRam: 8192}},
		{"NES 2.0, nothing but PRG", head(1, 0, 2, 8), api.Cart{Format: 2, Battery: true}},
		{"NES 2.0, all it has", head(1, 1, 0xe1, 0xd9, 0xbc, 0, 0x2f, 0xf1, 3, 255, 0, 63), api.Cart{Format: 2, Mapper: 0xcde, Sub: 11, Vert: true, Console: 1, Kind: 255, Timing: 3, Device: 63, PrgRam: 64 << 15, PrgNv: 256, ChrRam: 128, ChrNv: 64 << 15}},
		{"NES 2.0, console 2", head(1, 0, 0, 0x0a, 0, 0, 0, 0, 2), api.Cart{Format: 2, Console: 2, Timing: 2}},
		{"NES 2.0, console 3", head(1, 0, 0, 0x0b, 0, 0, 0, 0, 1, 15), api.Cart{Format: 2, Console: 3, Kind: 15, Timing: 1}},
	} {
		b := image(r.head, int(r.head[4])*16384+int(r.head[5])*8192)
		c, e, at := cart.Parse(b)
		if e != api.OK || at != 0 || numbers(c) != numbers(r.want) {
			t.Errorf("P1.1: %s: %d, %d, %+v", r.name, e, at, plain(c))
		}
	}
	for n := range byte(16) {
		c, e, _ := cart.Parse(image(head(1, 0, 0, 8, 0, 0, n|(15-n)<<4, n<<4|(15-n)), 16384))
		up, down := 64<<n, 64<<(15-n)
		if n == 0 {
			up = 0
		}
		if n == 15 {
			down = 0
		}
		if e != api.OK || c.PrgRam != up || c.PrgNv != down || c.ChrRam != down || c.ChrNv != up {
			t.Errorf("P1.1: memories of %d: %d, %d %d %d %d", n, e, c.PrgRam, c.PrgNv, c.ChrRam, c.ChrNv)
		}
	}
}

// TestParseOrder: of several faults the first by the document's order is told.
func TestParseOrder(t *testing.T) {
	long := make([]byte, api.MaxImage+1)
	short := image(head(1, 1), 10)
	for _, r := range []struct {
		name  string
		image []byte
		e     api.Errno
		at    int
	}{
		{"too long ahead of the magic", long, api.ErrLong, 0},
		{"magic 0 ahead of the length", []byte{0}, api.ErrMagic, 0},
		{"magic 1 ahead of magic 2", []byte{0x4e, 0, 0}, api.ErrMagic, 1},
		{"magic 3 ahead of the length", []byte("NES\x1b"), api.ErrMagic, 3},
		{"magic of a whole image", append([]byte("NES "), short[4:]...), api.ErrMagic, 3},
		{"one byte", []byte("N"), api.ErrShort, 1},
		{"three bytes", []byte("NES"), api.ErrShort, 3},
		{"four bytes", []byte("NES\x1a"), api.ErrShort, 4},
		{"15 bytes", head(0, 0, 0, 3)[:15], api.ErrShort, 15},
		{"reserved ahead of PRG", head(0, 0, 0, 3), api.ErrReserved, 7},
		{"b7 ahead of b9", head(1, 0, 0, 3, 0, 2, 1, 1), api.ErrReserved, 7},
		{"b9 ahead of b10", head(1, 0, 0, 0, 0, 0x80, 1, 1), api.ErrReserved, 9},
		{"b9's bit 0 is none of them", head(1, 0, 0, 0, 0, 1, 0x80, 1), api.ErrReserved, 10},
		{"b11", head(1, 0, 0, 0, 0, 0, 0, 0x80), api.ErrReserved, 11},
		{"b12 ahead of b13", head(0, 0, 0, 8, 0, 0, 0, 0, 0x80, 1, 4, 64), api.ErrReserved, 12},
		{"b13 of console 0", head(0, 0, 0, 8, 0, 0, 0, 0, 3, 1, 4, 64), api.ErrReserved, 13},
		{"b13 of console 2", head(0, 0, 0, 10, 0, 0, 0, 0, 3, 0x80, 4, 64), api.ErrReserved, 13},
		{"b13 of console 3", head(0, 0, 0, 11, 0, 0, 0, 0, 3, 16, 4, 64), api.ErrReserved, 13},
		{"b14 ahead of b15", head(0, 0, 0, 9, 0, 0, 0, 0, 3, 255, 0x80, 64), api.ErrReserved, 14},
		{"b15", head(0, 0, 0, 11, 0, 0, 0, 0, 3, 15, 3, 0x80), api.ErrReserved, 15},
		{"PRG ahead of CHR", head(65, 65), api.ErrPrg, 4},
		{"CHR ahead of the length", head(1, 65), api.ErrChr, 5},
		{"the length ahead of the rest", image(head(1, 0, 0, 8, 0, 0, 0, 0, 0, 0, 3), 16383), api.ErrShort, 16399},
	} {
		c, e, at := cart.Parse(r.image)
		wantRefused(t, "P1.1: "+r.name, c, e, at, r.e, r.at)
	}
}

// TestParseSizes: PRG and CHR as units and as powers of two, at and around their limits.
func TestParseSizes(t *testing.T) {
	for _, r := range []struct {
		name     string
		head     []byte
		e        api.Errno
		prg, chr int
	}{
		{"64 units", head(64, 64), api.OK, api.MaxPrg, api.MaxChr},
		{"65 units of PRG", head(65, 64), api.ErrPrg, 0, 0},
		{"65 units of CHR", head(64, 65), api.ErrChr, 0, 0},
		{"NES 2.0: 64 units", head(64, 64, 0, 8), api.OK, api.MaxPrg, api.MaxChr},
		{"NES 2.0: 65 units of PRG", head(65, 64, 0, 8), api.ErrPrg, 0, 0},
		{"NES 2.0: 65 units of CHR", head(64, 65, 0, 8), api.ErrChr, 0, 0},
		{"NES 2.0: 256 units of PRG", head(0, 0, 0, 8, 0, 1), api.ErrPrg, 0, 0},
		{"NES 2.0: 256 units of CHR", head(1, 0, 0, 8, 0, 0x10), api.ErrChr, 0, 0},
		{"NES 2.0: 14 times 256 units of PRG", head(0, 0, 0, 8, 0, 14), api.ErrPrg, 0, 0},
		{"archaic: b9 is junk", head(1, 1, 0, 4, 0, 0xff), api.OK, 16384, 8192},
		{"1 byte", head(0, 0, 0, 8, 0, 0xff), api.OK, 1, 1},
		{"7 times 2 to the power of 17", head(17<<2|3, 16<<2|3, 0, 8, 0, 0xff), api.OK, 7 << 17, 7 << 16},
		{"2 to the power of 20 and 19", head(20<<2, 19<<2, 0, 8, 0, 0xff), api.OK, api.MaxPrg, api.MaxChr},
		{"3 times 2 to the power of 19", head(19<<2|1, 0, 0, 8, 0, 15), api.ErrPrg, 0, 0},
		{"5 times 2 to the power of 18", head(18<<2|2, 0, 0, 8, 0, 15), api.ErrPrg, 0, 0},
		{"7 times 2 to the power of 18", head(18<<2|3, 0, 0, 8, 0, 15), api.ErrPrg, 0, 0},
		{"CHR: 3 times 2 to the power of 18", head(1, 18<<2|1, 0, 8, 0, 0xf0), api.ErrChr, 0, 0},
	} {
		c, e, at := cart.Parse(image(r.head, r.prg+r.chr))
		if e != r.e || len(c.Prg) != r.prg || len(c.Chr) != r.chr {
			t.Errorf("P1.1: %s: %d, %d, %d %d", r.name, e, at, len(c.Prg), len(c.Chr))
		}
	}
	for low := range 256 {
		power, odd := low>>2, []int{1, 3, 5, 7}[low&3]
		fits := power <= 20 && odd<<power <= api.MaxPrg
		n := 0
		if fits {
			n = odd << power
		}
		c, e, at := cart.Parse(image(head(byte(low), 0, 0, 8, 0, 15), n))
		if fits && (e != api.OK || len(c.Prg) != n) || !fits && (e != api.ErrPrg || at != 4) {
			t.Errorf("P1.1: PRG by power, %#x: %d, %d, %d", low, e, at, len(c.Prg))
		}
		fits = power <= 19 && odd<<power <= api.MaxChr
		n = 16384
		if fits {
			n += odd << power
		}
		c, e, at = cart.Parse(image(head(1, byte(low), 0, 8, 0, 0xf0), n))
		if fits && (e != api.OK || len(c.Chr) != n-16384) || !fits && (e != api.ErrChr || at != 5) {
			t.Errorf("P1.1: CHR by power, %#x: %d, %d, %d", low, e, at, len(c.Chr))
		}
	}
}

// TestParseRest: what may lie behind CHR, by format, console and Misc, and the image's greatest length.
func TestParseRest(t *testing.T) {
	const end = 16 + 512 + 16384 + 8192
	for _, r := range []struct {
		name string
		head []byte
		rest int
		e    api.Errno
		at   int
	}{
		{"archaic, none", head(1, 1, 4, 4), 0, api.OK, 0},
		{"archaic, any", head(1, 1, 4, 4), 1, api.OK, 0},
		{"archaic, one too few", head(1, 1, 4, 4), -1, api.ErrShort, end - 1},
		{"archaic, junk like a hotel board", head(1, 1, 4, 6), 0, api.OK, 0},
		{"iNES, none", head(1, 1, 4), 0, api.OK, 0},
		{"iNES, any", head(1, 1, 4, 1), 5, api.OK, 0},
		{"iNES, a hotel board, too few", head(1, 1, 4, 2), 8191, api.ErrShort, end + 8191},
		{"iNES, a hotel board, enough", head(1, 1, 4, 2), 8192, api.OK, 0},
		{"iNES, a hotel board, more", head(1, 1, 4, 2), 8193, api.OK, 0},
		{"NES 2.0, none", head(1, 1, 4, 8), 0, api.OK, 0},
		{"NES 2.0, one too many", head(1, 1, 4, 8), 1, api.ErrTail, end},
		{"NES 2.0, many too many", head(1, 1, 4, 8), 9000, api.ErrTail, end},
		{"NES 2.0, a hotel board has none of its own", head(1, 1, 4, 10), 0, api.OK, 0},
		{"NES 2.0, Misc 1, none", head(1, 1, 4, 8, 0, 0, 0, 0, 0, 0, 1), 0, api.ErrShort, end},
		{"NES 2.0, Misc 1, one", head(1, 1, 4, 8, 0, 0, 0, 0, 0, 0, 1), 1, api.OK, 0},
		{"NES 2.0, Misc 3, two", head(1, 1, 4, 8, 0, 0, 0, 0, 0, 0, 3), 2, api.ErrShort, end + 2},
		{"NES 2.0, Misc 3, three", head(1, 1, 4, 8, 0, 0, 0, 0, 0, 0, 3), 3, api.OK, 0},
		{"NES 2.0, Misc 3, many", head(1, 1, 4, 8, 0, 0, 0, 0, 0, 0, 3), 9000, api.OK, 0},
		{"as long as may be", head(1, 1, 4), api.MaxImage - end, api.OK, 0},
		{"one less", head(1, 1, 4), api.MaxImage - end - 1, api.OK, 0},
		{"one more", head(1, 1, 4), api.MaxImage - end + 1, api.ErrLong, 0},
	} {
		b := image(r.head, end-16+r.rest)
		c, e, at := cart.Parse(b)
		if r.e != api.OK {
			wantRefused(t, "P1.1: "+r.name, c, e, at, r.e, r.at)
			continue
		}
		if e != api.OK || at != 0 {
			t.Errorf("P1.1: %s: %d, %d", r.name, e, at)
		} else if !bytes.Equal(c.Trainer, b[16:528]) || !bytes.Equal(c.Prg, b[528:16912]) || !bytes.Equal(c.Chr, b[16912:end]) || !bytes.Equal(c.Rest, b[end:]) {
			t.Errorf("P1.1: %s: the lists lie elsewhere", r.name)
		}
	}
}

// TestParseToldAlike: many headers and lengths, by the document's words.
func TestParseToldAlike(t *testing.T) {
	dice := rand.New(rand.NewSource(1))
	seen := map[api.Errno]int{}
	for range 20000 {
		b := diceImage(dice)
		c, e, at := cart.Parse(b)
		want, wantE, wantAt := told(b)
		seen[wantE]++
		if e != wantE || at != wantAt || !same(c, want) {
			t.Fatalf("P1.1: % x with %d bytes: %d, %d, %+v, want %d, %d, %+v", b[:min(len(b), 16)], len(b), e, at, plain(c), wantE, wantAt, plain(want))
		}
	}
	for _, e := range []api.Errno{api.OK, api.ErrMagic, api.ErrShort, api.ErrReserved, api.ErrPrg, api.ErrChr, api.ErrTail} {
		if seen[e] < 50 {
			t.Errorf("the dice made %d images with %d", seen[e], e)
		}
	}
}

// diceImage is an image of any format, whole or nearly so, seldom with a wrong byte among the first ones.
func diceImage(dice *rand.Rand) []byte {
	h := head(byte(dice.Intn(3)), byte(dice.Intn(3)), byte(dice.Intn(256)), byte(dice.Intn(256))&0xf3)
	if dice.Intn(3) > 0 {
		h[7] |= 8
		h[8] = byte(dice.Intn(256))
		h[9] = []byte{0, 0x0f, 0xf0, 0xff, 0xff, 0x1f, 0x01}[dice.Intn(7)]
		if h[9]&15 == 15 {
			h[4] = byte(dice.Intn(60))
		}
		if h[9]>>4 == 15 {
			h[5] = byte(dice.Intn(56))
		}
	}
	for i := 8; i < 16; i++ {
		switch dice.Intn(12) {
		case 0:
			h[i] = byte(dice.Intn(256))
		case 1, 2, 3:
			h[i] |= 1 << dice.Intn(2)
		}
	}
	if dice.Intn(100) == 0 {
		h[dice.Intn(4)]++
	}
	prg, chr := toldSizes(h)
	n := int(h[6]>>2&1)*512 + small(prg) + small(chr)
	n = max(0, n+[]int{-1, 0, 0, 0, 1, 2, 3, 8191, 8192, 100}[dice.Intn(10)])
	b := image(h, n)
	if dice.Intn(50) == 0 {
		b = b[:dice.Intn(18)%(len(b)+1)]
	}
	return b
}

// small is a size, or 0 if it is a great one: most images stay short.
func small(size *big.Int) int {
	if size.Cmp(big.NewInt(100000)) > 0 {
		return 0
	}
	return int(size.Int64())
}
