package snap

import "tandem/api"

// How a snapshot begins.
const (
	opening   = "TNDM\x1a\x01"
	versionAt = len(opening) - 1
)

// What lies around a chunk's body: its name and its length ahead of it, its sum behind it.
const (
	nameSize = 4
	headSize = nameSize + 4
	sumSize  = 4
)

// chunk is a row of the form.
type chunk struct {
	name string
	size int  // bytes of its body
	rare bool // it is left out where its body is all 0
}

// The chunks, in their order.
const (
	headChunk = iota
	cpuChunk
	ramChunk
	workChunk
	boardChunk
	clockChunk
	rasterChunk
	videoChunk
	chrChunk
	padsChunk
	dmaChunk
	busChunk
	endChunk
	chunkCount
)

var chunks = [chunkCount]chunk{
	headChunk:   {"HEAD", 12, false},
	cpuChunk:    {"CPU_", 9, false},
	ramChunk:    {"RAM_", 2048, false},
	workChunk:   {"WORK", 8192, true},
	boardChunk:  {"BRD_", 47, false},
	clockChunk:  {"CLK_", 17, false},
	rasterChunk: {"RAS_", 9, false},
	videoChunk:  {"VID_", 4395, false},
	chrChunk:    {"CHR_", 8192, true},
	padsChunk:   {"PAD_", 5, false},
	dmaChunk:    {"DMA_", 5, false},
	busChunk:    {"BUS_", 3, false},
	endChunk:    {"END_", 0, false},
}

// fault is an error and its place.
type fault struct {
	e     api.Errno
	place int
}

// piece is a chunk's body in a snapshot; that of a chunk which is left out is the zero piece.
type piece struct {
	at   int // the place of its first byte
	body []uint8
}

// cut is the bodies of a snapshot's chunks, each in its chunk's place.
func cut(data []byte) ([chunkCount]piece, fault) {
	pieces := [chunkCount]piece{}
	if f := opens(data); f.e != api.OK {
		return pieces, f
	}
	p := len(opening)
	for i, c := range chunks {
		if len(data)-p < headSize {
			return pieces, fault{api.ErrShort, len(data)}
		}
		if c.rare && nameAt(data, p) == chunks[i+1].name {
			continue
		}
		body, f := c.bodyAt(data, p)
		if f.e != api.OK {
			return pieces, f
		}
		pieces[i] = body
		p += headSize + c.size + sumSize
	}
	if p < len(data) {
		return pieces, fault{api.ErrTail, p}
	}
	return pieces, fault{}
}

// opens tells what is wrong with a snapshot's first bytes.
func opens(data []byte) fault {
	for i := range len(opening) {
		switch {
		case i >= len(data):
			return fault{api.ErrShort, len(data)}
		case data[i] == opening[i]:
		case i == versionAt:
			return fault{api.ErrVersion, i}
		default:
			return fault{api.ErrMagic, i}
		}
	}
	return fault{}
}

// bodyAt is the body of a chunk that must begin at p, where eight bytes or more are left.
func (c chunk) bodyAt(data []byte, p int) (piece, fault) {
	from := p + headSize
	to := from + c.size
	switch {
	case nameAt(data, p) != c.name:
		return piece{}, fault{api.ErrChunk, p}
	case low(data[p+nameSize:from]) != uint64(c.size):
		return piece{}, fault{api.ErrWeight, p + nameSize}
	case len(data)-to < sumSize:
		return piece{}, fault{api.ErrShort, len(data)}
	case low(data[to:to+sumSize]) != uint64(sumOf(data[p:to])):
		return piece{}, fault{api.ErrSum, to}
	case c.rare && empty(data[from:to]):
		return piece{}, fault{api.ErrChunk, p}
	}
	return piece{at: from, body: data[from:to:to]}, fault{}
}

func nameAt(data []byte, p int) string { return string(data[p : p+nameSize]) }

// empty tells whether bytes are all 0.
func empty(list []uint8) bool {
	for _, b := range list {
		if b != 0 {
			return false
		}
	}
	return true
}
