package asm_test

import (
	"bytes"
	"errors"
	"strings"
	"testing"

	"tandem/api"
	"tandem/asm"
)

// sentinels is what may be wrong, with its words.
var sentinels = map[error]string{
	asm.ErrSize: "too long", asm.ErrToken: "not a token", asm.ErrName: "not a name that may be given", asm.ErrTwice: "name given twice",
	asm.ErrUnknown: "unknown name", asm.ErrMode: "no such operand here", asm.ErrRange: "number out of range", asm.ErrFar: "branch too far",
	asm.ErrDirective: "not a directive", asm.ErrOver: "place written twice, or beyond its bank", asm.ErrDeep: "too deep",
}

// bad is a text that must be refused.
type bad struct {
	text      string
	line, col int
	err       error
}

// faultOf is the fault that an error must be.
func faultOf(t *testing.T, text string, err error) asm.Fault {
	t.Helper()
	f, ok := err.(*asm.Fault)
	if !ok || f == nil {
		t.Fatalf("5: %.80q: the error is %v (%T), not a *Fault", text, err, err)
	}
	if _, ok := sentinels[f.Err]; !ok {
		t.Fatalf("5: %.80q: the fault holds %v, which is no sentinel", text, f.Err)
	}
	return *f
}

// refuses asks for the faults of sources, from Assemble and from Image.
func refuses(t *testing.T, promise string, list []bad) {
	t.Helper()
	for _, c := range list {
		o, err := asm.Assemble(c.text)
		image, err2 := asm.Image(c.text)
		if err == nil || err2 == nil {
			t.Errorf("%s: %.80q is taken: %+v, want %d:%d %v", promise, c.text, o.Segs, c.line, c.col, c.err)
			continue
		}
		want := asm.Fault{Line: c.line, Col: c.col, Err: c.err}
		if got, got2 := faultOf(t, c.text, err), faultOf(t, c.text, err2); got != want || got2 != want {
			t.Errorf("%s: %.80q: %v, %v, want %d:%d %v", promise, c.text, err, err2, c.line, c.col, c.err)
		}
		if o.Segs != nil || o.Syms != nil || o.Head != (api.Head{}) || image != nil {
			t.Errorf("5: %.80q: with an error there is %+v and %d bytes", c.text, o, len(image))
		}
	}
}

// good is a source and the bytes that lie from its first one on, in hexadecimal with blanks.
type good struct{ text, want string }

// assembled is the object of a source that must be taken.
func assembled(t *testing.T, src string) api.Object {
	t.Helper()
	o, err := asm.Assemble(src)
	if err != nil {
		t.Fatalf("5: %.80q is refused: %v", src, err)
	}
	return o
}

// gives asks for the bytes of sources that have one segment.
func gives(t *testing.T, promise string, list []good) {
	t.Helper()
	for _, c := range list {
		o, err := asm.Assemble(c.text)
		var got []byte
		if len(o.Segs) == 1 {
			got = o.Segs[0].Data
		}
		if want := hexBytes(c.want); err != nil || len(o.Segs) > 1 || !bytes.Equal(got, want) {
			t.Errorf("%s: %.80q gives %v, %d segments, % x, want % x", promise, c.text, err, len(o.Segs), got, want)
		}
	}
}

// hexBytes is bytes written in hexadecimal.
func hexBytes(text string) []byte {
	var b []byte
	for _, w := range strings.Fields(text) {
		b = append(b, byte(strings.IndexByte("0123456789ABCDEF", w[0])<<4|strings.IndexByte("0123456789ABCDEF", w[1])))
	}
	return b
}

// values asks for the values of expressions.
func values(t *testing.T, syms []api.Sym, list map[string]int) {
	t.Helper()
	for text, want := range list {
		if got, err := asm.Eval(text, syms); err != nil || got != want {
			t.Errorf("5.3: Eval(%q) = %d, %v, want %d", text, got, err, want)
		}
	}
}

// noValues asks for the faults of expressions.
func noValues(t *testing.T, syms []api.Sym, list []bad) {
	t.Helper()
	for _, c := range list {
		v, err := asm.Eval(c.text, syms)
		if err == nil {
			t.Errorf("5.3: Eval(%.80q) = %d, want %d:%d %v", c.text, v, c.line, c.col, c.err)
			continue
		}
		if got := faultOf(t, c.text, err); got != (asm.Fault{Line: c.line, Col: c.col, Err: c.err}) || v != 0 {
			t.Errorf("5.3: Eval(%.80q) = %d, %v, want %d:%d %v", c.text, v, err, c.line, c.col, c.err)
		}
	}
}

// is tells whether an error wraps another.
func is(err, target error) bool { return errors.Is(err, target) }
