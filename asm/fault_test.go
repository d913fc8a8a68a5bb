package asm_test

import (
	"errors"
	"testing"

	"tandem/api"
	"tandem/asm"
)

func TestSentinels(t *testing.T) {
	if len(sentinels) != 11 {
		t.Errorf("5: %d sentinels are not the same", len(sentinels))
	}
	for err, words := range sentinels {
		if err.Error() != words {
			t.Errorf("5: %q, want %q", err.Error(), words)
		}
	}
}

func TestFaultTellsItself(t *testing.T) {
	for err, words := range sentinels {
		f := &asm.Fault{Line: 12, Col: 345, Err: err}
		if got := f.Error(); got != "12:345: "+words {
			t.Errorf("5: Error() = %q", got)
		}
		if f.Unwrap() != err || !errors.Is(f, err) {
			t.Errorf("5: Unwrap() of %v is another", f)
		}
	}
	if got := (&asm.Fault{Line: 3, Col: 7, Err: asm.ErrRange}).Error(); got != "3:7: number out of range" {
		t.Errorf("5: Error() = %q", got)
	}
}

func TestFaultOfNothing(t *testing.T) {
	var f *asm.Fault
	if f.Error() != "" || f.Unwrap() != nil {
		t.Errorf("5: a nil fault tells %q, %v", f.Error(), f.Unwrap())
	}
	empty := &asm.Fault{}
	if empty.Unwrap() != nil || empty.Error() != "0:0: " {
		t.Errorf("5: an empty fault tells %q, %v", empty.Error(), empty.Unwrap())
	}
	if got := (&asm.Fault{Line: -1, Col: 2, Err: errors.New("other words")}).Error(); got != "-1:2: other words" {
		t.Errorf("5: a fault of another tells %q", got)
	}
}

func TestFaultsAreAskedAsErrors(t *testing.T) {
	_, err := asm.Assemble("\n  lda #256")
	if err == nil || err.Error() != "2:7: number out of range" {
		t.Errorf("5: %v", err)
	}
	var f *asm.Fault
	if !errors.As(err, &f) || f.Line != 2 || f.Col != 7 || !errors.Is(err, asm.ErrRange) || errors.Is(err, asm.ErrFar) {
		t.Errorf("5: %v is not what it should be", err)
	}
	_, other := asm.Assemble("\n  lda #256")
	if other == err {
		t.Errorf("5: two answers are one fault")
	}
	f.Line = 99
	if g := faultOf(t, "", other); g.Line != 2 {
		t.Errorf("5: two answers share a fault")
	}
}

func TestNoFaultIsNil(t *testing.T) {
	_, err := asm.Assemble("")
	_, err2 := asm.Image("")
	_, err3 := asm.Eval("1", nil)
	if err != nil || err2 != nil || err3 != nil {
		t.Errorf("5: %v, %v, %v", err, err2, err3)
	}
}

// Every example of the chapter that is a fault.
func TestExamplesOfFaults(t *testing.T) {
	refuses(t, "5.10", []bad{
		{"a1: \n@x: nop\n bne @x\nb1: bne @x", 4, 9, asm.ErrUnknown},
		{" lda #300", 1, 6, asm.ErrRange}, {" sta #1", 1, 6, asm.ErrMode}, {" foo 1", 1, 2, asm.ErrName}, {" lda 1 2", 1, 8, asm.ErrToken},
		{" lda", 1, 2, asm.ErrMode}, {" .foo", 1, 2, asm.ErrDirective}, {" lda (1", 1, 8, asm.ErrToken},
		{"x1 = 1\nx1 = 2", 2, 1, asm.ErrTwice}, {"a1: a1: nop", 1, 5, asm.ErrName}, {"@x = 1", 1, 1, asm.ErrToken}, {" .res 129\n bne 0", 2, 6, asm.ErrFar},
	})
	noValues(t, nil, []bad{{"1 / 0", 1, 3, asm.ErrRange}})
}

// Every example of the chapter that is bytes or a value.
func TestExamples(t *testing.T) {
	gives(t, "5.10", []good{
		{" LDA #$10 ; ten\n STA $0200,X", "A9 10 9D 00 02"},
		{"zp = $12\n lda zp\n lda zp+$100\n lda $0012", "A5 12 AD 12 01 AD 12 00"},
		{" lda low\nlow = 5", "AD 05 00"},
		{" lda #low\nlow = 5", "A9 05"},
		{" .byte \"Az\", 1, -1", "41 7A 01 FF"},
		{" .charmap 'A', 10\n .byte \"A\"\n .uncharmap 'A'\n .byte \"A\", 'A'", "0A 41 41"},
		{".org $8000\nloop: dex\n bne loop\n jmp end\nend: rts", "CA D0 FD 4C 06 80 60"},
	})
	o := assembled(t, ".org $8000\nloop: dex\n bne loop\n jmp end\nend: rts")
	if o.Segs[0].Org != 32768 || len(o.Syms) != 2 || o.Syms[0] != (api.Sym{Name: "end", Value: 32774}) || o.Syms[1] != (api.Sym{Name: "loop", Value: 32768}) {
		t.Errorf("5.10: %+v", o)
	}
	values(t, nil, map[string]int{"1 + 2 * 3 << 1": 14, "<$1234 + >$1234": 70, "-7 / 2": -3})
	values(t, []api.Sym{{Name: "n", Value: 5}, {Name: "n", Value: 6}}, map[string]int{"n": 5})
}
