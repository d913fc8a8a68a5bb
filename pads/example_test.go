package pads_test

import (
	"testing"

	"tandem/api"
	"tandem/pads"
)

// The chapter's examples, one by one.

func TestExamplePort(t *testing.T) {
	p := pads.Write(pads.Set(api.Pads{}, 0x81, 0), 1)
	if want := (api.Pads{Strobe: true, Held: [2]uint8{0x81, 0}, Shift: [2]uint8{0x81, 0}}); p != want {
		t.Errorf("P9.3: example 1: %+v, want %+v", p, want)
	}
	p = pads.Write(p, 0)
	if want := (api.Pads{Held: [2]uint8{0x81, 0}, Shift: [2]uint8{0x81, 0}}); p != want {
		t.Errorf("P9.3: example 1: behind Write(0) %+v, want %+v", p, want)
	}
	for port, want := range []string{"100000011111", "000000001111"} {
		if got, _ := bits(p, port, 12); got != want {
			t.Errorf("P9.5: example 1: port %d gives %s, want %s", port, got, want)
		}
	}
}

func TestExampleTurns(t *testing.T) {
	parses(t, "P9.6: example 2", "script 1\n|0|29780|R......A|........|\n", api.Turn{Budget: 29780, One: 0x81})
	walk := api.Turn{Budget: 100, Two: 0x10, Flush: true}
	parses(t, "P9.6: example 3", "script 1\n# walk\n\n|2|100|........|...U....| x3", walk, walk, walk)
	parses(t, "P9.6: example 4", "script 1")
}

func TestExampleErrors(t *testing.T) {
	refused(t, "P9.6: example 4", "", api.ErrHead, 1)
	refused(t, "P9.6: example 4", "script 1\r\n", api.ErrHead, 1)
	refused(t, "P9.6: example 5", "script 1\n|0|01|........|........|", api.ErrBudget, 2)
	refused(t, "P9.6: example 5", "script 1\n|4|x|........|........|", api.ErrRecord, 2)
	refused(t, "P9.6: example 5", "script 1\n|0|4294967296|........|........|", api.ErrBudget, 2)
	refused(t, "P9.6: example 6", "script 1\n|0|5|r.......|........|", api.ErrPad, 2)
	refused(t, "P9.6: example 6", "script 1\n|0|5|.R......|........|", api.ErrPad, 2)
	refused(t, "P9.6: example 7", "script 1\n|0|5|........|........| x1", api.ErrRepeat, 2)
	refused(t, "P9.6: example 7", "script 1\n|0|5|........|........| x4097", api.ErrRepeat, 2)
	refused(t, "P9.6: example 7", "script 1\n|0|5|........|........| x4096\n|0|5|........|........|", api.ErrMany, 3)
	refused(t, "P9.6: example 10", " script 1", api.ErrHead, 1)
	refused(t, "P9.6: example 10", "script 1\n|0|5|........|........|\n ", api.ErrRecord, 3)
}

func TestExamplePrint(t *testing.T) {
	a, b := api.Turn{Budget: 5, One: 1}, api.Turn{Budget: 5}
	text, e := pads.Print([]api.Turn{a, a, b})
	if want := "script 1\n|0|5|.......A|........| x2\n|0|5|........|........|\n"; text != want || e != api.OK {
		t.Errorf("P9.7: example 8: %q, %d", text, e)
	}
}

func TestExampleEach(t *testing.T) {
	got := gone("script 1\n|0|7|........|........| x2\nwrong\n|0|8|........|........|", -1)
	seven := handed{2, api.Turn{Budget: 7}}
	sameHanded(t, "P9.10: example 9", got, []handed{seven, seven})
}
