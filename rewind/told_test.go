package rewind_test

import (
	"bytes"
	"encoding/binary"
	"hash/crc32"

	"tandem/api"
	"tandem/rewind"
)

// A second form of the package, by the library's means: runs are found by trimming and searching, a patch is read by conditions on its parts, a tape is a list of lists.

// four is what ends a run.
var four = make([]byte, 4)

// toldX is what is turned in from, as long as to.
func toldX(from, to []byte) []byte {
	x := bytes.Clone(to)
	for i := range x {
		if i < len(from) {
			x[i] = to[i] ^ from[i]
		}
	}
	return x
}

// toldRun is a run: how many bytes are passed over, and its own.
type toldRun struct {
	skip  int
	bytes []byte
}

func toldRuns(x []byte) []toldRun {
	list := []toldRun{}
	for x = bytes.TrimRight(x, "\x00"); len(x) > 0; {
		run := bytes.TrimLeft(x, "\x00")
		skip := len(x) - len(run)
		if i := bytes.Index(run, four); i >= 0 {
			run = run[:i]
		}
		list = append(list, toldRun{skip, run})
		x = x[skip+len(run):]
	}
	return list
}

// number is a number as a patch has it.
func number(n uint64) []byte { return binary.AppendUvarint(nil, n) }

// toldParts is a patch in its parts: the signs, the two lengths, of each run its two numbers and its bytes, the two numbers of the end, the sum.
func toldParts(from, to []byte) [][]byte {
	parts := [][]byte{{0x54, 0x50}, number(uint64(len(from))), number(uint64(len(to)))}
	for _, r := range toldRuns(toldX(from, to)) {
		parts = append(parts, number(uint64(r.skip)), number(uint64(len(r.bytes))), r.bytes)
	}
	return append(parts, number(0), number(0), binary.LittleEndian.AppendUint32(nil, crc32.ChecksumIEEE(to)))
}

func toldDiff(from, to []byte) []byte {
	if len(from) > api.MaxSnap || len(to) > api.MaxSnap {
		return nil
	}
	return bytes.Join(toldParts(from, to), nil)
}

// toldNumber is the number that bytes begin with, and what is behind it; false if it isn't written with as few bytes as will do.
func toldNumber(d []byte) (uint64, []byte, bool) {
	n, size := binary.Uvarint(d)
	if size < 1 || size > 1 && d[size-1] == 0 {
		return 0, nil, false
	}
	return n, d[size:], true
}

// toldPatch is what a patch makes, and whether it's a patch for from.
func toldPatch(from, d []byte) ([]byte, bool) {
	d, ok := bytes.CutPrefix(d, []byte("TP"))
	if !ok {
		return nil, false
	}
	was, d, ok := toldNumber(d)
	if !ok || was != uint64(len(from)) {
		return nil, false
	}
	size, d, ok := toldNumber(d)
	if !ok || size > 65536 {
		return nil, false
	}
	to := make([]byte, size)
	copy(to, from)
	for at, first := uint64(0), true; ; first = false {
		var skip, n uint64
		if skip, d, ok = toldNumber(d); !ok {
			return nil, false
		}
		if n, d, ok = toldNumber(d); !ok {
			return nil, false
		}
		if skip == 0 && n == 0 {
			break
		}
		if n == 0 || skip > size || n > size || at+skip+n > size || n > uint64(len(d)) || !first && skip < 4 {
			return nil, false
		}
		run := d[:n]
		if run[0] == 0 || run[n-1] == 0 || bytes.Contains(run, four) {
			return nil, false
		}
		for i, b := range run {
			to[at+skip+uint64(i)] ^= b
		}
		at += skip + n
		d = d[n:]
	}
	return to, bytes.Equal(d, binary.LittleEndian.AppendUint32(nil, crc32.ChecksumIEEE(to)))
}

// toldTape is a tape: the snapshots, the newest first.
type toldTape struct {
	limit int
	list  [][]byte
}

func (t *toldTape) push(data []byte) api.Errno {
	if len(data) > api.MaxSnap {
		return api.ErrLong
	}
	t.list = append([][]byte{bytes.Clone(data)}, t.list...)
	t.list = t.list[:min(len(t.list), t.limit)]
	return api.OK
}

func (t *toldTape) back() ([]byte, api.Errno) {
	if len(t.list) == 0 {
		return nil, api.ErrEmpty
	}
	data := t.list[0]
	t.list = t.list[1:]
	return data, api.OK
}

func (t *toldTape) at(i int) ([]byte, api.Errno) {
	if i < 0 || i >= len(t.list) {
		return nil, api.ErrArg
	}
	return t.list[i], api.OK
}

func (t *toldTape) bytes() int {
	n := 0
	for i, data := range t.list {
		if i == 0 {
			n = len(data)
		} else {
			n += len(toldDiff(t.list[i-1], data))
		}
	}
	return n
}

// both is a tape and its second form.
type both struct {
	tape *rewind.Tape
	told toldTape
}
