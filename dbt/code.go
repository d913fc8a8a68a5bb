package dbt

import (
	"tandem/api"
	"tandem/xlate"
)

const (
	ramWindow  = 0x0800 // bytes of RAM that lie together
	bankWindow = 0x2000 // and of all other memory
	longest    = 3      // bytes of an instruction
)

// translate makes the block at an address: one without instructions where no code lies that a block may have. It looks at the machine alone, so that several may do so side by side.
func (m *Machine) translate(pc uint16) api.Block {
	tag := m.bus.Tag(pc)
	if tag == api.TagNone {
		return api.Block{}
	}
	b, _ := xlate.Translate(pc, tag, m.code(pc, tag), m.limit)
	return b
}

// code is the bytes from an address on, as many as its window has; but no more than a block looks at, which are its instructions' and the one behind them.
func (m *Machine) code(pc uint16, tag int) []byte {
	window := bankWindow
	if tag == api.TagRam {
		window = ramWindow
	}
	code := make([]byte, min(window-int(pc)%window, m.limit*longest+1))
	for i := range code {
		code[i] = m.bus.Load(pc + uint16(i))
	}
	return code
}
