package bus

import (
	"tandem/api"
	"tandem/mapper"
)

// Where the places of work RAM and of PRG begin; those of RAM begin with 0.
const (
	workPlaces = ramSize
	prgPlaces  = workPlaces + workSize
)

// Plain tells whether an access there is one of memory alone.
func (b *Bus) Plain(addr uint16, write bool) bool {
	switch {
	case !b.made():
		return false
	case addr >= prgStart:
		return !write
	case addr >= workStart && write:
		return b.workWrites()
	case addr >= workStart:
		return b.workReads()
	}
	return addr < videoStart
}

// Load is the byte at a plain address; no cycle goes by.
func (b *Bus) Load(addr uint16) uint8 {
	if !b.Plain(addr, false) {
		return 0
	}
	return regionOf(addr).read(b, addr)
}

// Store puts a byte at a plain address; no cycle goes by. It answers false (so that a bus is what a block works on).
func (b *Bus) Store(addr uint16, v uint8) bool {
	if b.Plain(addr, true) {
		regionOf(addr).write(b, addr, v)
	}
	return false
}

// Tag tells where code at an address lies: a PRG bank, TagRam, TagWork or TagNone.
func (b *Bus) Tag(addr uint16) int {
	switch {
	case !b.made():
		return 0
	case addr < videoStart:
		return api.TagRam
	case addr >= prgStart:
		return mapper.Bank(b.mem.Board, int(addr-prgStart)/api.Bank8)
	case addr >= workStart && b.workReads():
		return api.TagWork
	}
	return api.TagNone
}

// Place is the place of an address among the machine's own bytes; -1: none.
func (b *Bus) Place(addr uint16) int {
	if !b.made() {
		return 0
	}
	switch b.Tag(addr) {
	case api.TagNone:
		return -1
	case api.TagRam:
		return ramPlace(addr)
	case api.TagWork:
		return workPlace(addr)
	}
	return prgPlaces + mapper.PrgAt(b.mem.Board, addr)
}

// ramPlace is the place of an address in RAM.
func ramPlace(addr uint16) int {
	return int(addr % ramSize)
}

// workPlace is the place of an address in work RAM.
func workPlace(addr uint16) int {
	return workPlaces + int(addr%workSize)
}
