package vram

import (
	"tandem/api"
	"tandem/mapper"
)

// The video memory, and what its addresses are cut into.
const (
	memorySize   = 0x4000
	tablesStart  = 0x2000
	paletteStart = 0x3f00
	chrSize      = 8192
	pageSize     = 1024 // of CHR and of name tables
	entries      = 32   // of the palette
	colours      = 4    // entries whose first is one for both halves
	colourBits   = 0x3f
)

// runAt is the bytes at an address and behind it that lie side by side in one memory, cut so that none can grow into what follows there, and for how many addresses they stand. They may be fewer: the others are 0, as the CHR that is handed in is shorter.
func runAt(v *api.Video, b api.Board, chr []byte, addr uint16) ([]uint8, int) {
	addr %= memorySize
	inPage := int(addr % pageSize)
	left := pageSize - inPage
	switch {
	case addr >= paletteStart:
		entry := entryAt(addr)
		left = colours - entry%colours
		if left == colours {
			left = 1 // the three behind it may be the other half's
		}
		return cut(v.Pal[:], entry, left), left
	case addr >= tablesStart:
		left = min(left, paletteStart-int(addr))
		return cut(v.Nt[:], pageSize*mapper.Page(b, addr)+inPage, left), left
	case b.ChrRam:
		return cut(v.Chr[:], mapper.ChrAt(b, addr), left), left
	}
	return cut(chr, mapper.ChrAt(b, addr), left), left
}

// cut is n bytes of a memory from a place on, or as many as it has there.
func cut(from []uint8, at, n int) []uint8 {
	end := min(at+n, len(from))
	at = min(at, end)
	return from[at:end:end]
}

// entryAt is the palette's entry at an address: of each four the first is one for both halves.
func entryAt(addr uint16) int {
	entry := int(addr % entries)
	if entry%colours == 0 {
		return entry % (entries / 2)
	}
	return entry
}

// peek is Peek in a valid memory.
func peek(v *api.Video, b api.Board, chr []byte, addr uint16) uint8 {
	run, _ := runAt(v, b, chr, addr)
	if len(run) == 0 {
		return 0
	}
	return run[0]
}

// poke is Poke into a valid memory.
func poke(v *api.Video, b api.Board, addr uint16, val uint8) {
	if addr%memorySize >= paletteStart {
		val &= colourBits
	}
	// The cartridge's CHR isn't there for it, so that nothing of it can be written.
	if run, _ := runAt(v, b, nil, addr); len(run) > 0 {
		run[0] = val
	}
}
