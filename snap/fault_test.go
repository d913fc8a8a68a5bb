package snap_test

import (
	"bytes"
	"fmt"
	"math/rand"
	"slices"
	"testing"

	"tandem/api"
	"tandem/snap"
)

// truths is the places of truths in each chunk's body.
var truths = map[string][]int{
	"CPU_": {8},
	"BRD_": {3, 8, 36, 37, 38},
	"CLK_": {8, 9, 10, 11, 12},
	"RAS_": {4, 5, 6, 7, 8},
	"VID_": {4390, 4391, 4392},
	"PAD_": {0},
	"DMA_": {0},
	"BUS_": {1, 2},
}

// truthPlaces is the places of truths in a snapshot, in their order.
func truthPlaces(data []byte) []int {
	list := []int{}
	for _, p := range places(data) {
		for _, i := range truths[p.name] {
			list = append(list, p.body+i)
		}
	}
	return list
}

// Each truth that is neither 0 nor 1, of two the first, and ahead of another cartridge and of a state that is none.
func TestTruths(t *testing.T) {
	t.Parallel()
	for sum, data := range bothForms(t) {
		list := truthPlaces(data)
		if len(list) != 23 {
			t.Fatalf("%d truths", len(list))
		}
		cpu := placeOf(t, data, "CPU_")
		for i, at := range list {
			for v := 2; v < 256; v++ {
				refused(t, fmt.Sprintf("a truth that is %d", v), sum, mended(with(data, at, uint8(v))), api.ErrReserved, at)
			}
			wrong := mended(with(data, at, 2))
			refused(t, "a truth that is 2, another sum", ^sum, wrong, api.ErrReserved, at)
			refused(t, "a truth that is 2, a byte more", sum, join(wrong, []byte{0}), api.ErrTail, len(data))
			refused(t, "a truth that is 2, no state", sum, mended(with(wrong, cpu.body+4, 0)), api.ErrReserved, at)
			for _, later := range list[i+1:] {
				refused(t, "two truths", sum, mended(with(with(data, at, 3), later, 128)), api.ErrReserved, at)
			}
		}
	}
}

// What is no truth may be any byte: it is never ErrReserved.
func TestOtherBytes(t *testing.T) {
	t.Parallel()
	sum, _, data := full(t)
	list := truthPlaces(data)
	for _, p := range places(data) {
		step := 1 + (p.sum-p.body)/300
		for at := p.body; at < p.sum; at += step {
			for _, v := range []uint8{0, 1, 2, 3, 128, 255} {
				wrong := resummed(with(data, at, v), p)
				_, e, _ := snap.Load(sum, wrong)
				if e != api.OK && e != api.ErrState && (e != api.ErrOther || p.name != "HEAD") && !slices.Contains(list, at) {
					t.Errorf("P16.3: byte %d of %s is %d: %d", at-p.body, p.name, v, e)
				}
			}
		}
	}
}

// harm is a fault that is put into a full snapshot, and what must be told of it.
type harm struct {
	name  string
	turn  func(data []byte) []byte
	e     api.Errno
	place int
}

// setting is a harm that puts a byte where it lies; the sum of its chunk is made anew if there is one.
func setting(at int, v uint8, p *place) func(data []byte) []byte {
	return func(data []byte) []byte {
		l := with(data, at, v)
		if p != nil {
			l = resummed(l, *p)
		}
		return l
	}
}

// harms is faults in the order in which they are told.
func harms(t *testing.T, data []byte) []harm {
	list := []harm{{"long", func(l []byte) []byte { return join(l, make([]byte, api.MaxSnap)) }, api.ErrLong, 0}}
	for i := range 5 {
		list = append(list, harm{fmt.Sprintf("magic %d", i), setting(i, 0, nil), api.ErrMagic, i})
	}
	list = append(list, harm{"version", setting(5, 0, nil), api.ErrVersion, 5})
	for _, p := range places(data) {
		list = append(list, harm{p.name + "'s name", setting(p.at+3, 'x', nil), api.ErrChunk, p.at})
		list = append(list, harm{p.name + "'s length", setting(p.at+5, 0x77, nil), api.ErrWeight, p.at + 4})
		list = append(list, harm{p.name + "'s sum", func(l []byte) []byte { return with(l, p.sum+2, ^l[p.sum+2]) }, api.ErrSum, p.sum})
		if rare(p.name) {
			list = append(list, harm{p.name + " of zeros", func(l []byte) []byte {
				return resummed(join(l[:p.body], make([]byte, 8192), l[p.sum:]), p)
			}, api.ErrChunk, p.at})
		}
	}
	list = append(list, harm{"tail", func(l []byte) []byte { return join(l, []byte{1}) }, api.ErrTail, len(data)})
	for _, name := range []string{"CPU_", "BRD_", "VID_", "BUS_"} {
		p := placeOf(t, data, name)
		at := p.body + truths[name][0]
		list = append(list, harm{name + "'s truth", setting(at, 2, &p), api.ErrReserved, at})
	}
	head, cpu := placeOf(t, data, "HEAD"), placeOf(t, data, "CPU_")
	list = append(list, harm{"other", setting(14, ^data[14], &head), api.ErrOther, 14})
	return append(list, harm{"state", setting(cpu.body+4, 0, &cpu), api.ErrState, 0})
}

// Of two faults, and of all from one on, the first of the list is told.
func TestSeveralFaults(t *testing.T) {
	sum, _, data := full(t)
	list := harms(t, data)
	all := data
	for i := len(list) - 1; i >= 0; i-- {
		h := list[i]
		refused(t, h.name, sum, h.turn(data), h.e, h.place)
		for _, later := range list[i+1:] {
			refused(t, h.name+", and "+later.name, sum, h.turn(later.turn(data)), h.e, h.place)
		}
		all = h.turn(all)
		refused(t, "all from "+h.name+" on", sum, all, h.e, h.place)
	}
}

// mistakes is ways to spoil a snapshot; the sums of what they leave may be made anew behind them.
var mistakes = []func(r *rand.Rand, data []byte) []byte{
	func(r *rand.Rand, data []byte) []byte { return with(data, r.Intn(len(data)), anyByte(r)) },
	func(r *rand.Rand, data []byte) []byte { return with(data, r.Intn(min(len(data), 80)), anyByte(r)) },
	func(r *rand.Rand, data []byte) []byte { // a small body
		list := places(data)
		p := list[r.Intn(len(list))]
		if p.sum-p.body > 100 || p.sum == p.body {
			return data
		}
		return with(data, p.body+r.Intn(p.sum-p.body), some(r, 0, 1, 2, anyByte(r)))
	},
	func(r *rand.Rand, data []byte) []byte { // the registers of the video memory
		p := places(data)
		i := slices.IndexFunc(p, func(p place) bool { return p.name == "VID_" })
		if i < 0 {
			return data
		}
		return with(data, p[i].sum-1-r.Intn(10), some(r, 0, 1, 2, anyByte(r)))
	},
	func(r *rand.Rand, data []byte) []byte { // a chunk less, or twice, or elsewhere
		list := places(data)
		p, q := list[r.Intn(len(list))], list[r.Intn(len(list))]
		one := data[p.at:p.end]
		switch r.Intn(3) {
		case 0:
			return join(data[:p.at], data[p.end:])
		case 1:
			return join(data[:q.at], one, data[q.at:])
		}
		if p.at < q.at {
			return join(data[:p.at], data[p.end:q.at], one, data[q.at:])
		}
		return join(data[:q.at], one, data[q.at:p.at], data[p.end:])
	},
	func(r *rand.Rand, data []byte) []byte { // a memory of zeros
		list := places(data)
		p := list[r.Intn(len(list))]
		if !rare(p.name) {
			return data
		}
		return join(data[:p.body], make([]byte, p.sum-p.body), data[p.sum:])
	},
}

// endings is what may be done last.
var endings = []func(r *rand.Rand, data []byte) []byte{
	func(r *rand.Rand, data []byte) []byte { return data },
	func(r *rand.Rand, data []byte) []byte { return data },
	func(r *rand.Rand, data []byte) []byte { return data[:r.Intn(len(data)+1)] },
	func(r *rand.Rand, data []byte) []byte { return join(data, make([]byte, 1+r.Intn(20))) },
	func(r *rand.Rand, data []byte) []byte { return with(data, r.Intn(len(data)), anyByte(r)) },
	func(r *rand.Rand, data []byte) []byte { // a name or a length
		p := places(data)
		return with(data, p[r.Intn(len(p))].at+r.Intn(8), anyByte(r))
	},
}

// Snapshots spoilt in any ways, most of them with sums that are right: the second form's answers; and what Load takes Save gives back.
func TestAnyFaults(t *testing.T) {
	t.Parallel()
	r := rand.New(rand.NewSource(1604))
	seen := map[api.Errno]int{}
	for _, c := range boards() {
		for range 60 {
			s, sum := anyState(r, c), r.Uint32()
			if flip(r) {
				s.Mem.Work = [8192]uint8{}
			}
			base := toldBytes(sum, &s)
			for range 15 {
				data := base
				for n := r.Intn(3); n > 0 && wellFormed(data); n-- {
					data = mistakes[r.Intn(len(mistakes))](r, data)
					if wellFormed(data) && r.Intn(8) > 0 {
						data = mended(data)
					}
				}
				if wellFormed(data) {
					data = endings[r.Intn(len(endings))](r, data)
				}
				asked := some(r, sum, sum, sum, sum, r.Uint32())
				want, e, at := toldLoad(asked, data)
				agrees(t, "any faults", asked, data, &want, e, at)
				if e == api.OK && !bytes.Equal(saves(t, "any faults", asked, want), data) {
					t.Fatal("P16.4: Save gives other bytes back than Load took")
				}
				seen[e]++
			}
		}
	}
	for _, e := range []api.Errno{api.OK, api.ErrState, api.ErrOther, api.ErrReserved, api.ErrTail, api.ErrChunk, api.ErrWeight, api.ErrSum, api.ErrShort} {
		if seen[e] < 20 {
			t.Errorf("error %d: %d times: too few to tell", e, seen[e])
		}
	}
}

// wellFormed tells whether bytes are chunks up to their end, so that places finds its way.
func wellFormed(data []byte) bool {
	p := 6
	for p+12 <= len(data) {
		p += 12 + (int(data[p+4]) | int(data[p+5])<<8)
	}
	return p == len(data)
}

// Bytes as they come, behind a good beginning of any length.
func TestAnyBytes(t *testing.T) {
	r := rand.New(rand.NewSource(1605))
	sum, _, data := full(t)
	for range 3000 {
		junk := make([]byte, some(r, r.Intn(16), r.Intn(200), r.Intn(30000)))
		if flip(r) {
			fill(r, junk)
		}
		l := join(data[:some(r, 0, 6, r.Intn(60), r.Intn(len(data)))], junk)
		want, e, at := toldLoad(sum, l)
		agrees(t, "any bytes", sum, l, &want, e, at)
	}
}
