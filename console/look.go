package console

import (
	"tandem/api"
	"tandem/bus"
	"tandem/mapper"
)

// Below the first of these addresses lies RAM, from the second one on work RAM, where the board lets it, from the third one on PRG. All else only a bus can show.
const (
	ramEnd    = 0x2000
	workStart = 0x6000
	prgStart  = 0x8000
)

// look is n bytes from an address on, as bus.Peek tells them of a machine. A bus has a copy of the whole cartridge, so that none is made for memory that lies open in the state: a trace looks at each of its lines.
func look(c *api.Cart, s *api.State, addr uint16, n int) []uint8 {
	var b *bus.Bus
	shown := make([]uint8, n)
	for i := range shown {
		at := addr + uint16(i)
		switch {
		case at < ramEnd:
			shown[i] = s.Mem.Ram[int(at)%len(s.Mem.Ram)]
		case at >= prgStart:
			shown[i] = c.Prg[mapper.PrgAt(s.Mem.Board, at)]
		case at >= workStart && mapper.RamMode(s.Mem.Board) > 0:
			shown[i] = s.Mem.Work[at-workStart]
		default:
			if b == nil {
				b, _ = bus.From(*c, s.Mem)
			}
			shown[i] = b.Peek(at)
		}
	}
	return shown
}
