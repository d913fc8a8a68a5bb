package xlate

import (
	"strconv"

	"tandem/api"
	"tandem/isa"
)

// kindNames is the micro-ops' names.
var kindNames = [api.MicroReturn + 1]string{
	api.MicroAddr: "addr", api.MicroLoad: "load", api.MicroConst: "const", api.MicroAlu: "alu", api.MicroStore: "store", api.MicroPush: "push",
	api.MicroPull: "pull", api.MicroBranch: "branch", api.MicroJump: "jump", api.MicroVia: "via", api.MicroCall: "call", api.MicroReturn: "return",
}

// flagLetters is the letters of P's bits from the highest down; a bit that no program sees has a blank.
const flagLetters = "NV  DIZC"

// headLine is the line that tells of a block as a whole.
func headLine(b api.Block) []byte {
	line := withHex([]byte("block "), b.PC)
	line = withNumber(line, " tag ", b.Tag)
	line = withNumber(line, " insts ", b.Insts)
	line = withNumber(line, " cycles ", b.Least)
	line = withNumber(line, " ", b.Most)
	return append(line, '\n')
}

// withLine lays a micro-op's line behind a text.
func withLine(text []byte, o api.Micro) []byte {
	text = withNumber(text, "", o.Inst)
	text = withNumber(text, " +", o.Cycle)
	text = append(text, ' ')
	text = append(text, kindName(o.Kind)...)
	text = append(text, ' ')
	text = append(text, isa.Name(o.Op)...)
	switch o.Kind {
	case api.MicroAddr, api.MicroConst, api.MicroBranch, api.MicroJump, api.MicroVia, api.MicroCall:
		text = withHex(append(text, ' '), o.Arg)
	case api.MicroAlu:
		if o.Flags != 0 {
			text = withFlags(append(text, ' '), o.Flags)
		}
	}
	return append(text, '\n')
}

// kindName is a micro-op's name; "" of a number that is none.
func kindName(k api.MicroKind) string {
	if int(k) >= len(kindNames) {
		return ""
	}
	return kindNames[k]
}

// withNumber lays a word and a decimal number behind a text.
func withNumber(text []byte, word string, n int) []byte {
	return strconv.AppendInt(append(text, word...), int64(n), 10)
}

// withHex lays an address behind a text.
func withHex(text []byte, v uint16) []byte {
	const digits = "0123456789ABCDEF"
	return append(text, '$', digits[v>>12], digits[v>>8&15], digits[v>>4&15], digits[v&15])
}

// withFlags lays the letters of flags behind a text.
func withFlags(text []byte, flags uint8) []byte {
	for i := range len(flagLetters) {
		if flags&(0x80>>i)&allFlags != 0 {
			text = append(text, flagLetters[i])
		}
	}
	return text
}
