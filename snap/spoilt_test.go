package snap_test

import (
	"fmt"
	"testing"

	"tandem/api"
)

// faultOf is what must be told of a snapshot in which the byte at a place is another one.
func faultOf(list []place, at int) (api.Errno, int) {
	switch {
	case at < 5:
		return api.ErrMagic, at
	case at == 5:
		return api.ErrVersion, at
	}
	for _, p := range list {
		switch {
		case at >= p.end:
		case at < p.at+4:
			return api.ErrChunk, p.at
		case at < p.body:
			return api.ErrWeight, p.at + 4
		default:
			return api.ErrSum, p.sum
		}
	}
	return api.ErrTail, list[len(list)-1].end
}

// replaces asks of a snapshot in which one byte at a time is replaced, by all values of a list that are turned into it by exclusive or.
func replaces(t *testing.T, sum uint32, data []byte, from, to int, turns []uint8) {
	list := places(data)
	for at := from; at < to; at++ {
		e, place := faultOf(list, at)
		for _, x := range turns {
			data[at] ^= x
			refused(t, fmt.Sprintf("P16.5: byte %d turned by %d", at, x), sum, data, e, place)
			data[at] ^= x
		}
	}
}

// Every byte of a small snapshot and of a full one, with each bit turned and with all of them; outside of the memories with every other value.
func TestEveryByte(t *testing.T) {
	every := []uint8{}
	for x := 1; x < 256; x++ {
		every = append(every, uint8(x))
	}
	for sum, data := range bothForms(t) {
		for part := range 8 {
			t.Run(fmt.Sprintf("%d bytes, part %d", len(data), part), func(t *testing.T) {
				t.Parallel()
				replaces(t, sum, join(data), part*len(data)/8, (part+1)*len(data)/8, []uint8{1, 2, 4, 8, 16, 32, 64, 128, 255})
			})
		}
		t.Run(fmt.Sprintf("%d bytes, every value", len(data)), func(t *testing.T) {
			t.Parallel()
			data := join(data)
			replaces(t, sum, data, 0, 6, every)
			for _, p := range places(data) {
				replaces(t, sum, data, p.at, p.body+min(p.sum-p.body, 64), every)
				replaces(t, sum, data, max(p.body, p.sum-16), p.end, every)
			}
		})
	}
}

// A byte that is replaced is refused whatever sum is asked for: never taken for another cartridge's.
func TestSpoiltSum(t *testing.T) {
	sum, _, data := full(t)
	for at := 14; at < 18; at++ {
		wrong := with(data, at, ^data[at])
		asked := sum ^ 0xff<<(8*(at-14))
		refused(t, "the cartridge's sum replaced", asked, wrong, api.ErrSum, 26)
		refused(t, "the cartridge's sum replaced", sum, wrong, api.ErrSum, 26)
	}
}

// A snapshot that is cut at every place.
func TestEveryCut(t *testing.T) {
	for sum, data := range bothForms(t) {
		t.Run(fmt.Sprintf("%d bytes", len(data)), func(t *testing.T) {
			t.Parallel()
			for n := range data {
				refused(t, fmt.Sprintf("P16.5: cut at %d", n), sum, data[:n], api.ErrShort, n)
			}
		})
	}
}

// Bytes that lie behind the cut in the list's spare room are not looked at.
func TestSpareRoom(t *testing.T) {
	for sum, data := range bothForms(t) {
		want, _, _ := toldLoad(sum, data)
		roomy := join(data, data)
		loads(t, "P16.5: spare room", sum, roomy[:len(data)], &want)
		refused(t, "P16.5: spare room", sum, roomy[:len(data)-1], api.ErrShort, len(data)-1)
	}
}
