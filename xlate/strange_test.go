package xlate_test

import (
	"math"
	"math/rand"
	"slices"
	"testing"

	"tandem/api"
	"tandem/xlate"
)

// tried does everything with a block that no Translate made: it must end, it must not panic, it answers the same when asked again, and leaves the block as it is.
func tried(t *testing.T, b api.Block, r api.Regs, open uint8, l *land) {
	t.Helper()
	defer func() {
		if p := recover(); p != nil {
			t.Fatalf("P13.7: %v: %+v", p, b)
		}
	}()
	ops := slices.Clone(b.Ops)
	ram := inRam(0x0200, []byte(b.Bytes)...)
	twice(t, "Text", func() string { return xlate.Text(b) })
	twice(t, "Run", func() api.Outcome { return xlate.Run(b, r, open, l.copied()) })
	twice(t, "Run without a memory", func() api.Outcome { return xlate.Run(b, r, open, nil) })
	twice(t, "Eval", func() api.Outcome { return xlate.Eval(b, r, open, ram) })
	if !slices.Equal(ops, b.Ops) {
		t.Fatalf("P2: a block's micro-ops have changed: %+v, were %+v", b.Ops, ops)
	}
}

// twice asks twice.
func twice[T comparable](t *testing.T, what string, ask func() T) {
	t.Helper()
	if a, b := ask(), ask(); a != b {
		t.Fatalf("P2: %s: %+v, then %+v", what, a, b)
	}
}

// numbers is numbers that fit no field.
var numbers = []int{0, 1, 2, 3, 5, 63, 64, 65, 69, 70, 71, 127, 128, 129, 255, 256, 65535, 65536, 1 << 31, 1 << 40, math.MaxInt, -1, -2, -64, -65536, math.MinInt}

// anyMicro is a micro-op of anything.
func anyMicro(r *rand.Rand) api.Micro {
	return api.Micro{
		Kind: api.MicroKind(some(r, r.Intn(14), r.Intn(256))), Op: api.Op(some(r, r.Intn(70), some(r, numbers...))), Mode: api.Mode(some(r, r.Intn(13), some(r, numbers...))),
		Arg: uint16(some(r, r.Intn(65536), r.Intn(256), 0xff, 0x1fff, 0xffff)), Flags: anyByte(r), Inst: some(r, r.Intn(5), some(r, numbers...)), Cycle: some(r, r.Intn(9), some(r, numbers...)),
	}
}

// Blocks of any fields.
func TestAnyFields(t *testing.T) {
	r := rand.New(rand.NewSource(1307))
	l := filled(r)
	for range 4000 {
		b := api.Block{PC: anyPlace(r), Tag: some(r, numbers...), Insts: some(r, numbers...), Least: some(r, numbers...), Most: some(r, numbers...)}
		for range r.Intn(40) {
			b.Ops = append(b.Ops, anyMicro(r))
		}
		code := make([]byte, some(r, 0, 1, 2, 100, 2047, 2048, 2049, 5000))
		lay(r, code)
		b.Bytes = string(code)
		tried(t, b, anyRegs(r, 0), anyByte(r), l)
	}
}

// Blocks of Translate with something turned in them: micro-ops out of order, left out, doubled, of other instructions; numbers that don't fit.
func TestTurnedBlocks(t *testing.T) {
	r := rand.New(rand.NewSource(1308))
	turns := []func(b *api.Block){
		func(b *api.Block) { b.Insts = some(r, numbers...) },
		func(b *api.Block) { b.Least, b.Most = some(r, numbers...), some(r, numbers...) },
		func(b *api.Block) { b.PC, b.Tag = anyPlace(r), some(r, numbers...) },
		func(b *api.Block) { b.Bytes = b.Bytes[:r.Intn(len(b.Bytes)+1)] },
		func(b *api.Block) { b.Bytes = "" },
		func(b *api.Block) { b.Ops = b.Ops[:r.Intn(len(b.Ops)+1)] },
		func(b *api.Block) { b.Ops = b.Ops[r.Intn(len(b.Ops)+1):] },
		func(b *api.Block) { slices.Reverse(b.Ops) },
		func(b *api.Block) { r.Shuffle(len(b.Ops), func(i, j int) { b.Ops[i], b.Ops[j] = b.Ops[j], b.Ops[i] }) },
		func(b *api.Block) { b.Ops = append(b.Ops, b.Ops...) },
		func(b *api.Block) {
			for i := range b.Ops {
				b.Ops[i].Inst = some(r, 0, some(r, numbers...))
			}
		},
		func(b *api.Block) {
			for range min(len(b.Ops), 3) {
				o := &b.Ops[r.Intn(len(b.Ops))]
				x := anyMicro(r)
				switch r.Intn(7) {
				case 0:
					o.Kind = x.Kind
				case 1:
					o.Op = x.Op
				case 2:
					o.Mode = x.Mode
				case 3:
					o.Arg = x.Arg
				case 4:
					o.Flags = x.Flags
				case 5:
					o.Inst = x.Inst
				case 6:
					o.Cycle = x.Cycle
				}
			}
		},
	}
	for range 200 {
		l := filled(r)
		for range 15 {
			b := blockAt(t, l, anyPlace(r), some(r, 1, 3, 64))
			for range 1 + r.Intn(3) {
				turns[r.Intn(len(turns))](&b)
			}
			tried(t, b, anyRegs(r, 0), anyByte(r), l)
		}
	}
}

// Every kind of micro-op alone, with every mode and those that are none.
func TestLoneMicros(t *testing.T) {
	l := console()
	for kind := range 256 {
		for mode := -2; mode < 16; mode++ {
			for _, op := range []api.Op{-1, api.OpLDA, api.OpBNE, api.OpRTI, api.OpBRK, api.OpJAM, api.OpCount, math.MaxInt, math.MinInt} {
				o := api.Micro{Kind: api.MicroKind(kind), Op: op, Mode: api.Mode(mode), Arg: 0xffff}
				tried(t, api.Block{PC: 0xffff, Ops: []api.Micro{o}}, api.Regs{X: 0xff, Y: 0xff, S: 0xff, P: 0xff}, 0, l)
			}
		}
	}
}

// The zero Block, one without micro-ops, and a very long one.
func TestBareBlocks(t *testing.T) {
	l := console()
	tried(t, api.Block{}, api.Regs{}, 0, l)
	tried(t, api.Block{Insts: 5, Bytes: "\xea\xea\xea\xea\xea", Least: 10, Most: 10, Tag: api.TagRam}, api.Regs{}, 0, l)
	tried(t, api.Block{Ops: make([]api.Micro, 100000)}, api.Regs{}, 0, l)
	long := api.Block{PC: 0x0200, Tag: api.TagRam, Bytes: string(make([]byte, 100000))}
	for i := range 100000 {
		long.Ops = append(long.Ops, api.Micro{Kind: api.MicroAlu, Op: api.OpINX, Inst: i})
	}
	tried(t, long, api.Regs{}, 0, l)
}
