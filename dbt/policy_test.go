package dbt_test

import (
	"math/rand"
	"slices"
	"testing"

	"tandem/api"
	"tandem/cart"
	"tandem/dbt"
)

// anyTurns is a script.
func anyTurns(r *rand.Rand, n int) []api.Turn {
	l := make([]api.Turn, n)
	for i := range l {
		l[i] = api.Turn{Budget: uint32(some(r, 0, 1, 5, r.Intn(50), r.Intn(1000))), One: anyByte(r), Two: anyByte(r), Reset: r.Intn(12) == 0}
	}
	return l
}

// Sizes, limits, flushes and warmings at any points leave the same states and logs behind every turn.
func TestPolicyCannotBeSeen(t *testing.T) {
	r := rand.New(rand.NewSource(1520))
	for _, c := range carts() {
		for range 5 {
			s := anyState(r, c)
			var all []*dbt.Machine
			sizes := []int{1, 65536, anySize(r), anySize(r), anySize(r), anySize(r), anySize(r)}
			for i, size := range sizes {
				limit := anyLimit(r)
				if i < 2 {
					limit = []int{1, api.MaxLimit}[i]
				}
				all = append(all, from(t, c, s, size, limit))
			}
			for _, turn := range anyTurns(r, 25) {
				first := turn
				first.Flush = false
				n, e := all[0].Play(first)
				want, log, events := all[0].State(), all[0].Log(), all[0].Events()
				for i, m := range all[1:] {
					turn.Flush = r.Intn(3) == 0
					if r.Intn(4) == 0 {
						m.Warm([]uint16{anyTarget(r), anyTarget(r), want.Cpu.Regs.PC}, 1+r.Intn(4))
					}
					if k, e2 := m.Play(turn); k != n || e2 != e {
						t.Fatalf("P15.9: machine %d: Play(%+v) = %d, %d, want %d, %d", i+1, turn, k, e2, n, e)
					}
					sameState(t, "P15.9: another policy", m, want)
					if !slices.Equal(m.Log(), log) || !slices.Equal(m.Events(), events) {
						t.Fatal("P15.9: another policy's logs")
					}
				}
			}
			for i, m := range all {
				if n := len(m.Keys()); n > sizes[i] {
					t.Errorf("P13: %d keys in %d slots", n, sizes[i])
				}
			}
		}
	}
}

// The same calls have the same answers, what can't be seen among them.
func TestAlike(t *testing.T) {
	for _, c := range carts()[:4] {
		var stories [2][]api.Entry
		var counters [2]api.Stats
		var held [2][]api.Key
		for i := range stories {
			r := rand.New(rand.NewSource(1521))
			m := from(t, c, anyState(r, c), anySize(r), anyLimit(r))
			for range 20 {
				m.Play(some(r, anyTurns(r, 3)...))
				m.Warm([]uint16{anyTarget(r), anyTarget(r), anyTarget(r)}, 1+r.Intn(16))
			}
			stories[i], counters[i], held[i] = m.Entries(), m.Stats(), m.Keys()
		}
		if !slices.Equal(stories[0], stories[1]) || counters[0] != counters[1] || !slices.Equal(held[0], held[1]) {
			t.Errorf("P2: %+v and %+v", counters[0], counters[1])
		}
	}
}

// anyImage is a string of bytes that may be an image: one that is, with some bytes turned, cut or nothing of the kind.
func anyImage(r *rand.Rand) []byte {
	prg, chr := some(r, 1, 1, 2, 3, 4), r.Intn(3)
	image := make([]byte, 16+prg*api.PrgUnit+chr*api.ChrUnit)
	copy(image, "NES\x1a")
	image[4], image[5], image[6] = uint8(prg), uint8(chr), some(r, uint8(0), 0x10, 0x20, 0x30, 0x40, 0x70)|uint8(r.Intn(16))&0x0b
	body := image[16:]
	lay(r, body[:prg*api.PrgUnit], 0x8000)
	switch r.Intn(8) {
	case 0: // a header of another kind
		for range 3 {
			image[4+r.Intn(12)] = anyByte(r)
		}
	case 1:
		image = image[:r.Intn(len(image))]
	case 2:
		image[r.Intn(16)] = anyByte(r)
	case 3:
		for i := range image {
			image[i] = anyByte(r)
		}
	case 4: // NES 2.0
		image[7], image[10] = 0x08, some(r, uint8(0x07), 0x70, 0x00)
	}
	return image
}

// Every image is refused with an error, or makes machines on which every script runs to its end.
func TestEveryImage(t *testing.T) {
	r := rand.New(rand.NewSource(1522))
	ran, refusedOnes := 0, 0
	for range 150 {
		c, e, _ := cart.Parse(anyImage(r))
		if e != api.OK {
			refusedOnes++
			continue
		}
		m, e := dbt.New(c, anySize(r), anyLimit(r))
		if e != api.OK {
			if m != nil || e != api.ErrBoard && e != api.ErrBanks {
				t.Fatalf("P14: New: %v, %d", m, e)
			}
			refusedOnes++
			continue
		}
		ran++
		g := powered(t, c, anySize(r), anyLimit(r))
		for _, turn := range anyTurns(r, 6) {
			turn.Flush = flip(r)
			was := g.m.Stats()
			n := g.play("P14: every image", turn)
			s := g.m.Stats()
			if n < int(turn.Budget) || n >= int(turn.Budget)+8 || s.Steps+s.Blocks-s.Guards-was.Steps-was.Blocks+was.Guards > n {
				t.Fatalf("P14: %+v: %d cycles, %+v and then %+v", turn, n, was, s)
			}
		}
		g.holds("P14: every image")
	}
	if ran < 50 || refusedOnes < 20 {
		t.Errorf("%d images ran and %d were refused: too few to tell", ran, refusedOnes)
	}
}
