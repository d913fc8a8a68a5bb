package vram_test

import (
	"math/rand"
	"testing"

	"tandem/api"
	"tandem/vram"
)

// fillIs holds Fill against single writes, those of the package and those of the chapter's words.
func fillIs(t *testing.T, v api.Video, from []byte) {
	t.Helper()
	b := plainBoard(api.Vertical)
	x, single := open(v, b, nil), v
	for _, val := range from {
		x.write(4, val)
		single = vram.Write(single, b, 4, val)
	}
	got := vram.Fill(v, from)
	same(t, "P8.4: Fill and the chapter's words", got, x.shut())
	same(t, "P8.4: Fill and single writes", got, single)
	if t.Failed() {
		t.Fatalf("Fill of %d bytes from OamAt %d on", len(from), v.OamAt)
	}
}

func TestFillByHand(t *testing.T) {
	r := rand.New(rand.NewSource(848))
	v := anyValid(r, boards[0])
	same(t, "P8.4: Fill of none", vram.Fill(v, nil), v)
	same(t, "P8.4: Fill of none", vram.Fill(v, []byte{}), v)
	want := api.Video{OamAt: 1, Io: 0x9c}
	want.Oam[0] = 0x9c
	same(t, "P8.4: Fill of one byte", vram.Fill(api.Video{}, []byte{0x9c}), want)
	want = api.Video{OamAt: 3, Io: 0xff}
	want.Oam[2] = 0xe3
	same(t, "P8.4: Fill of a third byte", vram.Fill(api.Video{OamAt: 2}, []byte{0xff}), want)
	want = api.Video{OamAt: 2, Io: 4}
	want.Oam[254], want.Oam[255], want.Oam[0], want.Oam[1] = 0xe2, 2, 3, 4
	same(t, "P8.4: Fill over the end", vram.Fill(api.Video{OamAt: 254}, []byte{0xf2, 2, 3, 4}), want)
	list := make([]byte, 257)
	for i := range list {
		list[i] = byte(i)
	}
	list[256] = 0x77
	whole := api.Video{OamAt: 5, Io: 0xff}
	for i := range 256 {
		val := uint8(i)
		if (i+5)%4 == 2 {
			val &= 0xe3
		}
		whole.Oam[(i+5)%256] = val
	}
	same(t, "P8.4: Fill of 256 bytes", vram.Fill(api.Video{OamAt: 5}, list[:256]), whole)
	whole.OamAt, whole.Io, whole.Oam[5] = 6, 0x77, 0x77
	same(t, "P8.4: Fill of 257 bytes", vram.Fill(api.Video{OamAt: 5}, list), whole)
}

func TestFillEverywhere(t *testing.T) {
	r := rand.New(rand.NewSource(849))
	for at := range 256 {
		for _, n := range []int{0, 1, 2, 3, 4, 100, 255, 256, 257, 258, 300, 511, 512, 513, 1000} {
			v := anyValid(r, boards[0])
			v.OamAt = uint8(at)
			fillIs(t, v, bytesOf(r, n))
		}
	}
}

// TestFillLong: a list of any length.
func TestFillLong(t *testing.T) {
	r := rand.New(rand.NewSource(850))
	list := bytesOf(r, 3<<20)
	v := anyValid(r, boards[0])
	v.OamAt = 0xfd
	want := vram.Fill(v, list[:1<<20])
	want = vram.Fill(want, list[1<<20:])
	same(t, "P8.4: Fill of 3 MiB", vram.Fill(v, list), want)
	for i := range 256 {
		val := list[len(list)-256+i]
		if (i+0xfd)%4 == 2 {
			val &= 0xe3
		}
		if want.Oam[(i+0xfd)%256] != val {
			t.Fatalf("P8.4: Fill of 3 MiB: byte %d of the last ones", i)
		}
	}
	if want.OamAt != 0xfd {
		t.Errorf("P8.4: Fill of 3 MiB: OamAt is %#x", want.OamAt)
	}
}

// TestFillLeaves: what is handed in stays as it is, its spare room too, and is not kept.
func TestFillLeaves(t *testing.T) {
	r := rand.New(rand.NewSource(851))
	for _, n := range []int{0, 1, 100, 256, 257, 300} {
		room := bytesOf(r, 600)
		kept := string(room)
		v := anyValid(r, boards[0])
		ahead := v
		got := vram.Fill(v, room[100:100+n])
		if string(room) != kept {
			t.Errorf("P8.4: Fill of %d bytes changes what it is given", n)
		}
		same(t, "P8.4: the memory that was filled", v, ahead)
		behind := got
		clear(room)
		same(t, "P8.4: what was filled, and the list that it came from", got, behind)
	}
}
