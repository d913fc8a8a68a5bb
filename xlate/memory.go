package xlate

// nothing is the memory of a block that is given none.
type nothing struct{}

func (nothing) Plain(addr uint16, write bool) bool { return false }

func (nothing) Load(addr uint16) uint8 { return 0 }

func (nothing) Store(addr uint16, v uint8) bool { return false }

// ramAlone is a memory of RAM alone, in which the bytes of the running block may lie.
type ramAlone struct {
	ram   [ramSize]uint8
	first uint16 // the address of the block's first byte
	size  int    // how many bytes it has; 0 if it doesn't lie here
}

func (m *ramAlone) Plain(addr uint16, write bool) bool { return addr < ramEnd }

func (m *ramAlone) Load(addr uint16) uint8 {
	if addr >= ramEnd {
		return 0
	}
	return m.ram[addr%ramSize]
}

func (m *ramAlone) Store(addr uint16, v uint8) bool {
	if addr >= ramEnd {
		return false
	}
	m.ram[addr%ramSize] = v
	return int((addr-m.first)%ramSize) < m.size
}
