package isa

import "tandem/api"

// form is how an operand is written. A branch's target is written as any other address of two bytes, so that modes are more than forms.
type form int

const (
	formNone form = iota
	formA
	formImm
	formByte
	formByteX
	formByteY
	formViaX
	formViaY
	formWord
	formWordX
	formWordY
	formVia
	formCount
)

// digit stands for any hexadecimal digit in a written form; all else in one stands for itself, letters for the small ones too.
const digit = 'h'

// point is how an opcode is written behind the name.
const point = ".hh"

// forms is the mode that each form means (but for a branch), and how it is written, the blank ahead of it too.
var forms = [formCount]struct {
	mode api.Mode
	text string
}{
	formNone:  {api.ModeImp, ""},
	formA:     {api.ModeAcc, " A"},
	formImm:   {api.ModeImm, " #$hh"},
	formByte:  {api.ModeZp, " $hh"},
	formByteX: {api.ModeZpx, " $hh,X"},
	formByteY: {api.ModeZpy, " $hh,Y"},
	formViaX:  {api.ModeIzx, " ($hh,X)"},
	formViaY:  {api.ModeIzy, " ($hh),Y"},
	formWord:  {api.ModeAbs, " $hhhh"},
	formWordX: {api.ModeAbx, " $hhhh,X"},
	formWordY: {api.ModeAby, " $hhhh,Y"},
	formVia:   {api.ModeInd, " ($hhhh)"},
}

// written is how the operand of a mode is written.
func written(mode api.Mode) string {
	for f := range forms {
		if forms[f].mode == mode {
			return forms[f].text
		}
	}
	return forms[formWord].text
}

// upper is a byte, as a capital letter if it is a letter.
func upper(b byte) byte {
	if 'a' <= b && b <= 'z' {
		return b - 'a' + 'A'
	}
	return b
}

// hexOf is the value of a hexadecimal digit; 16 of a byte that is none.
func hexOf(b byte) int {
	switch b = upper(b); {
	case '0' <= b && b <= '9':
		return int(b - '0')
	case 'A' <= b && b <= 'F':
		return int(b-'A') + 10
	}
	return 16
}
