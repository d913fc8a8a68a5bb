package asm_test

import (
	"bytes"
	"reflect"
	"slices"
	"strings"
	"testing"

	"tandem/api"
	"tandem/asm"
	"tandem/cart"
)

func TestSegments(t *testing.T) {
	for _, c := range []struct {
		src  string
		want []api.Seg
	}{
		{"", nil}, {"a1: n = 5\n.org 7\n.bank 3\n.res 0\n.byte \"\"\n.align 1", nil},
		{" nop", []api.Seg{{Bank: 0, Org: 0, Data: []byte{0xea}}}},
		{"nop\na1: n = 3\n.if 1\nnop\n.endif\n.charmap 'a',1\n.inesmap 2\nnop", []api.Seg{{Data: []byte{0xea, 0xea, 0xea}}}},
		{"nop\n.org 1\nnop", []api.Seg{{Data: []byte{0xea}}, {Org: 1, Data: []byte{0xea}}}},
		{"nop\n.bank 0\nnop", []api.Seg{{Data: []byte{0xea}}, {Org: 1, Data: []byte{0xea}}}},
		{"nop\n.if 0\n.org 1\n.endif\nnop", []api.Seg{{Data: []byte{0xea, 0xea}}}},
		{".org 5\n.org 6\n.bank 2\n.bank 1\n.res 2,1\n.align 4,2\n.byte \"ab\"\n.word 1\n.bank 0\n.org 3\n.bank 7\njmp 5\n.org 1", []api.Seg{{Bank: 1, Org: 6, Data: []byte{1, 1, 'a', 'b', 1, 0}}, {Bank: 7, Org: 3, Data: []byte{0x4c, 5, 0}}}},
		{".org $ffff\nnop\n.org 0\nnop\n.bank 191\n.org $c000\nnop", []api.Seg{{Org: 65535, Data: []byte{0xea}}, {Org: 0, Data: []byte{0xea}}, {Bank: 191, Org: 0xc000, Data: []byte{0xea}}}},
		{".org 9\n.byte \"\"\n.byte 1", []api.Seg{{Org: 9, Data: []byte{1}}}},
		{".org 9\nn = 1\n.res 0\n.bank 1\n.byte 1", []api.Seg{{Bank: 1, Org: 9, Data: []byte{1}}}},
		{".org 20\n.byte 1\n.org 10\n.byte 2", []api.Seg{{Org: 20, Data: []byte{1}}, {Org: 10, Data: []byte{2}}}}, // as in the source, not by address
	} {
		if o := assembled(t, c.src); !reflect.DeepEqual(o.Segs, c.want) {
			t.Errorf("5.6: %q: %v, want %v", c.src, o.Segs, c.want)
		}
	}
}

func TestSymbols(t *testing.T) {
	o := assembled(t, "zz = -5\n_b: nop\n@x: nop\nB1 = 2147483647\nb1: nop\na10 = 1\na1 = 2\na2 = -2147483647-1\n@y: a_ = 3\naZ = 4")
	want := []api.Sym{{Name: "B1", Value: 2147483647}, {Name: "_b", Value: 0}, {Name: "a1", Value: 2}, {Name: "a10", Value: 1}, {Name: "a2", Value: -2147483648}, {Name: "aZ", Value: 4}, {Name: "a_", Value: 3}, {Name: "b1", Value: 2}, {Name: "zz", Value: -5}}
	if !slices.Equal(o.Syms, want) {
		t.Errorf("5.6: %v, want %v", o.Syms, want)
	}
	if o := assembled(t, "@x: nop\n.if 0\nn = 1\n.endif"); len(o.Syms) != 0 {
		t.Errorf("5.6: %v", o.Syms)
	}
	var src strings.Builder
	var names []string
	for i := range 3000 {
		name := string([]byte{"zyxab_ZQ"[i%8], byte('a' + i/8%26), byte('0' + i/208%10), byte('A' + i/2080), '_'})
		names = append(names, name)
		src.WriteString(name + "=1\n")
	}
	slices.Sort(names)
	o = assembled(t, src.String())
	for i, s := range o.Syms {
		if s.Name != names[i] {
			t.Fatalf("5.6: name %d is %q, want %q", i, s.Name, names[i])
		}
	}
	if len(o.Syms) != len(names) {
		t.Errorf("5.6: %d names", len(o.Syms))
	}
}

// spoil writes over all of an object's lists, spare room too.
func spoil(o api.Object) {
	for i := range o.Segs[:cap(o.Segs)] {
		s := &o.Segs[:cap(o.Segs)][i]
		for k := range s.Data[:cap(s.Data)] {
			s.Data[:cap(s.Data)][k] = 0xee
		}
	}
	for i := range o.Segs[:cap(o.Segs)] {
		o.Segs[:cap(o.Segs)][i] = api.Seg{Bank: -1}
	}
	for i := range o.Syms[:cap(o.Syms)] {
		o.Syms[:cap(o.Syms)][i] = api.Sym{Name: "!"}
	}
}

func TestAnswersAreNewMemory(t *testing.T) {
	src := "n = 1\n.byte 1,2,3\n.org 9\n.res 5,7\n.org 20\n.byte \"abc\"\n.bank 1\nm: nop"
	first := assembled(t, src)
	for i := range first.Segs { // a segment's spare room is its own
		was := slices.Clone(first.Segs)
		for k := range was {
			was[k].Data = slices.Clone(was[k].Data)
		}
		_ = append(first.Segs[i].Data, 1, 2, 3, 4, 5, 6, 7, 8, 9)
		if !reflect.DeepEqual(first.Segs, was) {
			t.Errorf("5.6: segment %d shares memory with another", i)
		}
	}
	second := assembled(t, src)
	spoil(first)
	if third := assembled(t, src); !reflect.DeepEqual(second, third) {
		t.Errorf("5.6: %+v, then %+v", second, third)
	}
	image, _ := asm.Image(src)
	other, _ := asm.Image(src)
	clear(image[:cap(image)])
	if again, _ := asm.Image(src); !bytes.Equal(other, again) {
		t.Errorf("5.7: images share memory")
	}
}

func TestImage(t *testing.T) {
	image, err := asm.Image(" .ineschr 1\n .inesmir 2\n .inesmap 4\n .bank 1\n .org $fffc\n .word $8000\n .bank 2\n .org 5\n .byte 9\n .bank 0\n .org $9fff\n .byte 1\n .org $a000\n .byte 2")
	if err != nil || len(image) != 16+16384+8192 {
		t.Fatalf("5.7: %v, %d bytes", err, len(image))
	}
	want := make([]byte, 16384+8192)
	want[0x3ffc], want[0x3ffd], want[16384+5], want[0x1fff], want[0] = 0, 0x80, 9, 1, 2
	if !bytes.Equal(image[16:], want) {
		t.Errorf("5.7: bytes lie elsewhere")
	}
	for src, want := range map[string]api.Cart{
		"": {Format: api.INes, PrgRam: 8192, ChrRam: 8192, Prg: make([]byte, 16384)},
		".inesprg 64\n.ineschr 64\n.inesmap 255\n.inesmir 1": {Format: api.INes, Mapper: 255, Vert: true, PrgRam: 8192, Prg: make([]byte, 1<<20), Chr: make([]byte, 1<<19)},
		".inesmir 2\n.ineschr 2\n.inesmap 16":                {Format: api.INes, Mapper: 16, Four: true, PrgRam: 8192, Prg: make([]byte, 16384), Chr: make([]byte, 16384)},
		".inesmir 0\n.inesprg 2":                             {Format: api.INes, PrgRam: 8192, ChrRam: 8192, Prg: make([]byte, 32768)},
	} {
		image, err := asm.Image(src)
		printed, e, _ := cart.Print(want)
		if err != nil || e != api.OK || !bytes.Equal(image, printed) {
			t.Errorf("5.7: %q: %v, %d bytes, want %d", src, err, len(image), len(printed))
		}
		got, e, place := cart.Parse(image)
		if e != api.OK || got.Format != api.INes || got.Mapper != want.Mapper || got.Vert != want.Vert || got.Four != want.Four || got.Battery || got.PrgRam != 8192 || got.ChrRam != want.ChrRam || len(got.Prg) != len(want.Prg) || len(got.Chr) != len(want.Chr) || len(got.Rest)+len(got.Trainer) != 0 {
			t.Errorf("5.7: %q is read as %d, %d", src, e, place)
		}
	}
}

// Every bank that an image can have, and the first one beyond.
func TestBanksOfAnImage(t *testing.T) {
	for _, c := range []struct{ prg, chr int }{{1, 0}, {1, 1}, {2, 0}, {3, 5}, {64, 64}, {64, 0}, {1, 64}} {
		head := ".inesprg " + itoa(c.prg) + "\n.ineschr " + itoa(c.chr) + "\n"
		n := 2*c.prg + c.chr
		var src strings.Builder
		want := make([]byte, n*8192)
		for b := range n {
			src.WriteString(".bank " + itoa(b) + "\n.org " + itoa(b*331) + "\n.byte " + itoa(b+1) + "\n")
			want[b*8192+b*331%8192] = byte(b + 1)
		}
		image, err := asm.Image(head + src.String())
		if err != nil || len(image) != 16+len(want) || !bytes.Equal(image[16:], want) {
			t.Errorf("5.7: %d units of PRG and %d of CHR: %v, %d bytes", c.prg, c.chr, err, len(image))
		}
		if n < 192 {
			over := head + ".bank " + itoa(n) + "\na1: .res 0\n.byte \"\"\n a2: .byte 1\nnop"
			if _, err := asm.Assemble(over); err != nil {
				t.Errorf("5.7: Assemble tells %v", err)
			}
			_, err := asm.Image(over)
			if got := faultOf(t, over, err); got != (asm.Fault{Line: 6, Col: 6, Err: asm.ErrOver}) {
				t.Errorf("5.7: a bank too many: %v", err)
			}
			if _, err := asm.Image(head + ".bank 191\na1: .res 0\n.align 1"); err != nil {
				t.Errorf("5.7: a bank without bytes: %v", err)
			}
		}
	}
	for src, want := range map[string]asm.Fault{
		"\n .bank 2\n nop\n .bank 3\n nop":                    {Line: 3, Col: 2, Err: asm.ErrOver},
		" .bank 5\n nop\n .bank 2\n nop":                      {Line: 2, Col: 2, Err: asm.ErrOver},
		" .bank 5\n nop\n lda #300":                           {Line: 3, Col: 6, Err: asm.ErrRange},
		" .bank 5\n nop\n foo":                                {Line: 3, Col: 2, Err: asm.ErrName},
		".inesprg 9\n.bank 2\nnop\n.inesprg 1":                {Line: 3, Col: 1, Err: asm.ErrOver},
		".inesprg 1\n.bank 2\nnop\n.bank 3\nnop\n.ineschr 1":  {Line: 5, Col: 1, Err: asm.ErrOver},
		".bank 2\n.align 4\n.org 1\n.align 4\n.res 0\n.res 1": {Line: 4, Col: 1, Err: asm.ErrOver},
	} {
		image, err := asm.Image(src)
		if got := faultOf(t, src, err); got != want || image != nil {
			t.Errorf("5.7: %q: %v, want %v", src, err, &want)
		}
	}
	if _, err := asm.Image(".bank 2\nnop\n.bank 3\nnop\n.inesprg 2"); err != nil {
		t.Errorf("5.7: the last .inesprg counts: %v", err)
	}
}
