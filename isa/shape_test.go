package isa_test

import (
	"slices"
	"testing"

	"tandem/api"
	"tandem/isa"
)

func TestShapes(t *testing.T) {
	everyAsk(func(code uint8, crossed, taken bool) {
		want := toldShape(code, crossed, taken)
		if got := isa.Shape(code, crossed, taken); !slices.Equal(got, want) {
			t.Errorf("P4.3: Shape(%02x, %v, %v) = %v, want %v", code, crossed, taken, got, want)
		}
	})
}

func TestShapesByHand(t *testing.T) {
	for _, c := range []struct {
		code           uint8
		crossed, taken bool
		want           string
	}{
		{0xbd, true, false, "Fetch Operand Operand Wrong Read"},
		{0xbd, false, true, "Fetch Operand Operand Read"},
		{0x9b, false, false, "Fetch Operand Operand Wrong Read"},
		{0x93, false, false, "Fetch Operand Low High Wrong Read"},
		{0xab, true, true, "Fetch Operand"},
		{0xa5, true, true, "Fetch Operand Read"},
		{0xb6, true, true, "Fetch Operand Zero Read"},
		{0xad, true, true, "Fetch Operand Operand Read"},
		{0xa1, true, true, "Fetch Operand Zero Low High Read"},
		{0xb1, false, false, "Fetch Operand Low High Read"},
		{0xb1, true, false, "Fetch Operand Low High Wrong Read"},
		{0x91, false, false, "Fetch Operand Low High Wrong Write"},
		{0x97, false, false, "Fetch Operand Zero Write"},
		{0x06, false, false, "Fetch Operand Read Back Write"},
		{0xd3, false, false, "Fetch Operand Low High Wrong Read Back Write"},
		{0xc3, true, true, "Fetch Operand Zero Low High Read Back Write"},
		{0x1c, true, false, "Fetch Operand Operand Wrong Read"},
		{0x1a, true, true, "Fetch Next"},
		{0x6a, false, false, "Fetch Next"},
		{0xd0, true, true, "Fetch Operand Next Wrong"},
		{0xd0, false, true, "Fetch Operand Next"},
		{0xd0, true, false, "Fetch Operand"},
		{0x4c, true, true, "Fetch Operand Operand"},
		{0x6c, true, true, "Fetch Operand Operand Low High"},
		{0x20, true, true, "Fetch Operand Stack Push Push Operand"},
		{0x60, true, true, "Fetch Next Stack Pull Pull Operand"},
		{0x40, true, true, "Fetch Next Stack Pull Pull Pull"},
		{0x00, true, true, "Fetch Operand Push Push Push VecLow VecHigh"},
		{0x48, true, true, "Fetch Next Push"},
		{0x28, true, true, "Fetch Next Stack Pull"},
		{0x72, true, true, "Fetch"},
	} {
		if got := isa.Shape(c.code, c.crossed, c.taken); !slices.Equal(got, accsOf(c.want)) {
			t.Errorf("P4.3: Shape(%02x, %v, %v) = %v, want %s", c.code, c.crossed, c.taken, got, c.want)
		}
	}
}

func TestAccNames(t *testing.T) {
	if want := []api.Acc{api.AccFetch, api.AccZero, api.AccWrong, api.AccWrite, api.AccPull, api.AccVecHigh}; !slices.Equal(accsOf("Fetch Zero Wrong Write Pull VecHigh"), want) {
		t.Errorf("the accesses' names are not in the order of their numbers")
	}
}

func TestCyclesAreTheShapesLength(t *testing.T) {
	longest := 0
	everyAsk(func(code uint8, crossed, taken bool) {
		n := isa.Cycles(code, crossed, taken)
		if want := len(toldShape(code, crossed, taken)); n != want || n != len(isa.Shape(code, crossed, taken)) {
			t.Errorf("P4.3: Cycles(%02x, %v, %v) = %d, want %d", code, crossed, taken, n, want)
		}
		if !crossed && !taken && n != isa.Decode(code).Cycles {
			t.Errorf("P4.3: Cycles(%02x) = %d, and Decode says %d", code, n, isa.Decode(code).Cycles)
		}
		longest = max(longest, n)
	})
	if longest != 8 {
		t.Errorf("P4.3: the longest instruction has %d cycles", longest)
	}
	if n := isa.Cycles(0xd0, true, true); n != 4 {
		t.Errorf("P4.3: Cycles(d0, true, true) = %d", n)
	}
}

// spoil overwrites a list, its spare room too.
func spoil[T any](list []T, v T) {
	list = list[:cap(list)]
	for i := range list {
		list[i] = v
	}
}

func TestShapesAreNewMemory(t *testing.T) {
	everyAsk(func(code uint8, crossed, taken bool) {
		one, two := isa.Shape(code, crossed, taken), isa.Shape(code, crossed, taken)
		spoil(one, -1)
		if want := toldShape(code, crossed, taken); !slices.Equal(two, want) || !slices.Equal(isa.Shape(code, crossed, taken), want) || isa.Cycles(code, crossed, taken) != len(want) {
			t.Fatalf("P4.3: Shape(%02x, %v, %v) is not new memory", code, crossed, taken)
		}
	})
}
