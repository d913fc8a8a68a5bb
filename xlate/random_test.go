package xlate_test

import (
	"fmt"
	"math/rand"
	"slices"
	"testing"

	"tandem/api"
	"tandem/xlate"
)

// Any code at any place, against the chapter's words.
func TestAnyBlock(t *testing.T) {
	r := rand.New(rand.NewSource(1301))
	for range 200 {
		l := filled(r)
		for range 50 {
			pc, limit := anyPlace(r), some(r, 1, 2, 3, api.MaxLimit, 1+r.Intn(api.MaxLimit))
			code := l.window(pc)
			code = code[:some(r, len(code), r.Intn(len(code)+1), min(len(code), r.Intn(8)))]
			b := made(t, pc, tagOf(pc), limit, code...)
			sameBlock(t, fmt.Sprintf("$%04X, %d bytes, limit %d", pc, len(code), limit), b, toldBlock(pc, tagOf(pc), code, limit))
			if s := xlate.Text(b); s != toldText(b) {
				t.Fatalf("P13.9: %q, want %q", s, toldText(b))
			}
		}
	}
}

// sameRun holds a Run against the chapter's words, and asks for nothing of the memory that is not its business.
func sameRun(t *testing.T, what string, b api.Block, r api.Regs, open uint8, l *land) api.Outcome {
	t.Helper()
	x := l.copied()
	want := toldOutcome(b, r, open, x)
	l.asked, l.stores = nil, nil
	got := xlate.Run(b, r, open, l)
	if got != want {
		t.Fatalf("P13.5: %s: %s% X from %+v: %s, want %s", what, xlate.Text(b), b.Bytes, r, short(got), short(want))
	}
	if l.cells != x.cells || !slices.Equal(l.stores, x.stores) {
		t.Fatalf("P13.5: %s: % X from %+v stores %+v, want %+v", what, b.Bytes, r, l.stores, x.stores)
	}
	for _, a := range l.asked {
		if a.addr < 0x2000 {
			t.Fatalf("P13.5: %s: % X: Plain is asked for $%04X", what, b.Bytes, a.addr)
		}
		if !slices.Contains(x.asked, a) && got.Left != api.LeftGuard {
			t.Fatalf("P13.5: %s: % X: Plain is asked for %+v, which is not touched", what, b.Bytes, a)
		}
	}
	return got
}

// Any block on any memory: what is plain changes from page to page, and some bytes throw the block away.
func TestAnyRun(t *testing.T) {
	r := rand.New(rand.NewSource(1302))
	ways, insts := map[uint8]int{}, 0
	for range 200 {
		l := filled(r)
		for page := range 256 {
			l.reads[page], l.writes[page] = l.reads[page] && r.Intn(8) != 0, l.writes[page] && r.Intn(4) != 0
			if page >= 0x20 && r.Intn(8) == 0 {
				l.reads[page], l.writes[page] = true, r.Intn(2) == 0
			}
		}
		for range 300 * r.Intn(5) {
			l.own[uint16(r.Intn(0x800))] = true
		}
		for range 60 {
			pc := anyPlace(r)
			b := blockAt(t, l, pc, some(r, 1, 4, api.MaxLimit))
			o := sameRun(t, "any run", b, anyRegs(r, anyPlace(r)), anyByte(r), l)
			ways[o.Left]++
			insts += o.Insts
		}
	}
	if ways[api.LeftEnd] < 1000 || ways[api.LeftGuard] < 1000 || ways[api.LeftStore] < 1000 || insts < 20000 {
		t.Errorf("the blocks were left in these ways: %v, behind %d instructions: too few to tell", ways, insts)
	}
}

// Every opcode, alone and behind another one, on any registers; pages' ends, the stack's ends and the end of all addresses are near.
func TestEveryOpcodeRuns(t *testing.T) {
	r := rand.New(rand.NewSource(1303))
	for code := range 256 {
		l := filled(r)
		for range 200 {
			pc := some[uint16](r, 0x0010, 0x00f8, 0x0100, 0x01f9, 0x0310, 0x0ff0, 0x6010, 0x80fa, 0xe010, 0xff10)
			first := some(r, nil, []uint8{0xea}, []uint8{0xa9, anyByte(r)}, []uint8{0xa6, anyByte(r)}, []uint8{0x9a})
			low, high := some(r, anyByte(r), 0xff, 0xfe, 0), some(r, anyByte(r), 0, 1, 0x1f, 0x20, 0x5f, 0x60, 0x7f, 0x80, 0xff)
			l.put(pc, append(first, uint8(code), low, high, anyByte(r))...)
			for range 8 {
				l.put(uint16(r.Intn(256)), 0xff, some[uint8](r, 0x1f, 0x5f, 0x7f, 0xff))
			}
			for page := 0x20; page < 0x100; page += 1 + r.Intn(9) {
				l.reads[page], l.writes[page] = r.Intn(2) == 0, r.Intn(2) == 0
			}
			b := blockAt(t, l, pc, some(r, 1, 2, 5))
			sameRun(t, fmt.Sprintf("opcode %02X", code), b, anyRegs(r, pc), anyByte(r), l)
		}
	}
}
