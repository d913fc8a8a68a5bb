package rewind_test

import (
	"bytes"
	"testing"

	"tandem/api"
	"tandem/asm"
	"tandem/cart"
	"tandem/dbt"
	"tandem/interp"
	"tandem/snap"
)

// source is a program that counts, fills work RAM, video memory and OAM, and takes interrupts.
const source = `
.inesprg 1
.org $c000
start:
 ldx #$ff
 txs
 lda #$88
 sta $2000
 lda #1
 sta $4019
 lda #$83
 sta $401a
 cli
loop:
 inc $10
 bne skip
 inc $11
skip:
 ldy $10
 lda $11
 sta $6000,y
 sta $0300,y
 sta $2007
 jmp loop
nmi:
 inc $12
 lda #3
 sta $4014
 rti
irq:
 inc $13
 pha
 lda $401b
 lda $4015
 pla
 rti
.bank 1
.org $fffa
.word nmi, start, irq
`

// game is the cartridge of the program.
func game(t testing.TB) api.Cart {
	t.Helper()
	image, err := asm.Image(source)
	if err != nil {
		t.Fatal(err)
	}
	c, e, _ := cart.Parse(image)
	if e != api.OK {
		t.Fatalf("cart.Parse: %d", e)
	}
	return c
}

// Snapshots of a machine on its way come back byte by byte, newest first, and the machine that goes on from one goes the same way once more.
func TestMachineGoesBack(t *testing.T) {
	c := game(t)
	sum := cart.Sum(c)
	m, e := interp.New(c)
	if e != api.OK {
		t.Fatalf("interp.New: %d", e)
	}
	b := pair(t, 40)
	whole := 0
	for n := range 100 {
		data, e := snap.Save(sum, m.State())
		if e != api.OK {
			t.Fatalf("snap.Save: %d", e)
		}
		whole += len(data)
		b.push(t, data)
		if n%7 == 3 {
			b.at(t, b.tape.Len()-1)
		}
		m.Play(api.Turn{Budget: uint32(n * n), One: uint8(n)})
	}
	b.all(t)
	if n := b.tape.Bytes(); n > whole/100*40/4 {
		t.Errorf("17: 40 snapshots of %d bytes each take %d bytes", whole/100, n)
	}
	last, n := b.told.list[0], 98
	for b.back(t); len(b.told.list) > 0; n-- {
		data, e := b.tape.At(0)
		if e != api.OK {
			t.Fatalf("17.2: At(0): %d", e)
		}
		s, e, place := snap.Load(sum, data)
		if e != api.OK {
			t.Fatalf("P16: snap.Load: error %d, place %d", e, place)
		}
		again, e := dbt.From(c, s, 16, 8)
		if e != api.OK {
			t.Fatalf("dbt.From: %d", e)
		}
		again.Play(api.Turn{Budget: uint32(n * n), One: uint8(n)})
		if next, _ := snap.Save(sum, again.State()); !bytes.Equal(next, last) {
			t.Fatalf("P16: the machine goes another way from snapshot %d on", n)
		}
		last = data
		b.back(t)
	}
}

// A patch between two snapshots leads from the one to the other. Handed to a third one it's taken or refused as the words say: snapshots with the same chunks all have the same sum, as each chunk ends with its own, so that what such a patch makes may well be a list that it is right for.
func TestSnapshotsPatch(t *testing.T) {
	c := game(t)
	m, _ := interp.New(c)
	list := [][]byte{}
	for n := range 12 {
		data, _ := snap.Save(1, m.State())
		list = append(list, data)
		m.Play(api.Turn{Budget: uint32(3000 * n), Two: uint8(n)})
	}
	taken, not := 0, 0
	for _, from := range list {
		for _, to := range list {
			patch := toldDiff(from, to)
			patchIs(t, "snapshots", from, to, patch)
			for _, other := range list {
				if want, ok := toldPatch(other, patch); ok {
					made(t, "another snapshot", other, patch, want)
					taken++
				} else {
					refused(t, "another snapshot", other, patch, api.ErrPatch)
					not++
				}
			}
		}
	}
	if taken <= len(list)*len(list) || not == 0 {
		t.Errorf("%d patches taken, %d not: the test asks too little", taken, not)
	}
}
