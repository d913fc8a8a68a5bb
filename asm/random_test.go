package asm_test

import (
	"fmt"
	"math/rand"
	"reflect"
	"strings"
	"testing"

	"tandem/api"
	"tandem/asm"
)

// one is one of a list.
func pick(r *rand.Rand, list ...string) string { return list[r.Intn(len(list))] }

// randomLeaf is a value, mostly one that is known or small.
func randomLeaf(r *rand.Rand) string {
	switch r.Intn(12) {
	case 0, 1:
		return pick(r, "a1", "b1", "c1", "@x", "@y", "n", "m", "lda", "X")
	case 2:
		return pick(r, "'A'", "'é'", "'''", "'b'", "'\ufffd'")
	case 3:
		return "*"
	case 4:
		return pick(r, "2147483647", "65535", "65536", "255", "256", "$ff", "$0ff", "%11", "31", "32", "$8000")
	}
	return fmt.Sprintf(pick(r, "%d", "$%x", "$%02X", "%%%b"), r.Intn(20))
}

func randomExpr(r *rand.Rand, deep int) string {
	if deep == 0 || r.Intn(3) > 0 {
		return randomLeaf(r)
	}
	switch r.Intn(4) {
	case 0:
		return pick(r, "-", "~", "<", ">") + " " + randomExpr(r, deep-1)
	case 1:
		return "(" + randomExpr(r, deep-1) + ")"
	}
	return randomExpr(r, deep-1) + pick(r, "", " ") + pick(r, "+", "-", "*", "/", "&", "|", "^", "<<", ">>") + pick(r, "", " ") + randomExpr(r, deep-1)
}

func randomStatement(r *rand.Rand) string {
	e := func() string { return randomExpr(r, 2) }
	switch r.Intn(22) {
	case 0:
		return pick(r, "n", "m", "c1", "q", "A") + " = " + e()
	case 1, 2, 3:
		return pick(r, "lda", "STA", "inc", "stx", "nop", "cmp", "ldx", "sty") + " " + e() + pick(r, "", "", ",x", ",Y")
	case 4:
		return pick(r, "lda", "adc", "sta", "cpx") + " #" + e()
	case 5:
		return pick(r, "lda", "jmp", "sta") + " (" + e() + pick(r, ",x)", "),y", ")")
	case 6:
		return pick(r, "bne", "BEQ", "jmp", "jsr") + " " + pick(r, "a1", "b1", "@x", "*", "*+2", "*-5", e())
	case 7, 8:
		return pick(r, "asl", "nop", "rts", "asl a", "jam", "slo", "tax", "lsr A", "lda")
	case 9, 10:
		return ".byte " + pick(r, e(), e()+","+e(), "\"Ab\"", "\"é\","+e(), "\"\"", e()+",\"A'\"")
	case 11:
		return ".word " + pick(r, e(), e()+", "+e())
	case 12:
		return ".res " + pick(r, "1", "2,"+e(), "0,"+e(), e(), "8192")
	case 13:
		return ".align " + pick(r, "2", "4,"+e(), "1,"+e(), e(), "256")
	case 14:
		return ".org " + pick(r, "$100", "$1fff", "$2000", "$fffe", "*", e())
	case 15:
		return ".bank " + pick(r, "1", "2", "191", "192", e())
	case 16:
		return ".charmap " + pick(r, "'A'", "'é'", "'b'") + "," + pick(r, "7", "-1", e())
	case 17:
		return ".uncharmap " + pick(r, "'A'", "'é'", "'b'")
	case 18:
		return ".if " + pick(r, "0", "1", e())
	case 19:
		return pick(r, ".else", ".endif", ".endif", ".ENDIF ; x")
	case 20:
		return pick(r, ".inesprg", ".ineschr", ".inesmap", ".inesmir") + " " + pick(r, "1", "2", e())
	}
	return pick(r, "", "; words", "foo", ".foo", "@x", "5", "a1: nop", "lda 1 1", ".else 5")
}

// randomSource is lines of which few are wrong.
func randomSource(r *rand.Rand, lines int) string {
	var b strings.Builder
	open := 0
	for range lines {
		if r.Intn(5) == 0 {
			b.WriteString(pick(r, "a1", "b1", "c1", "d1", "@x", "@y", "@z", "e1", "f1", "g1", "lda") + ":")
		}
		s := randomStatement(r)
		if strings.HasPrefix(s, ".if") {
			open++
		}
		b.WriteString(pick(r, "", " ", "\t") + s + pick(r, "", "", " ", " ; c", "\r") + "\n")
	}
	return b.String() + strings.Repeat(".endif\n", r.Intn(2)*open)
}

// bent is a text with something changed.
func bent(r *rand.Rand, s string) string {
	b := []byte(s)
	for range r.Intn(3) {
		if len(b) == 0 {
			break
		}
		at := r.Intn(len(b))
		junk := pick(r, "?", "\xff", "\"", "'", ",", ":", "=", "(", ")", "#", " ", "\n", "\r", ";", "@", ".", "$", "0", "x", "A", "é", "-", "<", "*")
		switch r.Intn(3) {
		case 0:
			b = append(b[:at], append([]byte(junk), b[at:]...)...)
		case 1:
			b = append(b[:at], b[at+1:]...)
		default:
			b[at] = junk[0]
		}
	}
	return string(b)
}

// agree holds an assembled source against the chapter's words.
func agree(t *testing.T, src string, tally map[error]int) {
	t.Helper()
	want, fault := toldAssemble(src)
	got, err := asm.Assemble(src)
	if fault != nil {
		if err == nil {
			t.Fatalf("5: %q is taken, want %v", src, fault)
		}
		if f := faultOf(t, src, err); f != *fault {
			t.Fatalf("5: %q: %v, want %v", src, err, fault)
		}
		tally[fault.Err]++
		return
	}
	if err != nil || !reflect.DeepEqual(got, want) {
		t.Fatalf("5: %q gives %v, %+v, want %+v", src, err, got, want)
	}
	tally[nil]++
}

func TestRandomSources(t *testing.T) {
	r := rand.New(rand.NewSource(14))
	tally := map[error]int{}
	for i := range 60000 {
		src := randomSource(r, 1+r.Intn(1+i%12))
		if i%3 == 0 {
			src = bent(r, src)
		}
		agree(t, src, tally)
	}
	for err := range sentinels {
		if tally[err] < 20 && err != asm.ErrSize && err != asm.ErrDeep && err != asm.ErrFar {
			t.Errorf("too few sources are %v: %v", err, tally)
		}
	}
	if tally[nil] < 5000 {
		t.Errorf("too few sources are right: %v", tally)
	}
}

func TestRandomExpressions(t *testing.T) {
	r := rand.New(rand.NewSource(15))
	syms := []api.Sym{{Name: "n", Value: 5}, {Name: "m", Value: 1 << 40}, {Name: "@x", Value: -2}, {Name: "a1", Value: -1 << 31}, {Name: "n", Value: 6}, {Name: "b1", Value: 1<<31 - 1}}
	for i := range 100000 {
		text := randomExpr(r, 1+i%6)
		if i%4 == 0 {
			text = bent(r, text)
		}
		want, fault := toldEval(text, syms)
		got, err := asm.Eval(text, syms)
		if fault == nil {
			if err != nil || got != want {
				t.Fatalf("5.3: Eval(%q) = %d, %v, want %d", text, got, err, want)
			}
		} else if err == nil || faultOf(t, text, err) != *fault || got != 0 {
			t.Fatalf("5.3: Eval(%q) = %d, %v, want %v", text, got, err, fault)
		}
	}
}
