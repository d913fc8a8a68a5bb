package isa_test

import (
	"fmt"
	"regexp"
	"slices"
	"strings"

	"tandem/api"
)

// The chapter's words a second time: its table as it stands there, its lists by name, and a line's form as a regular expression.

const toldTable = `
| 0 | BRK | ORA ix | JAM | SLO ix | NOP z | ORA z | ASL z | SLO z | PHP | ORA i | ASL a | ANC i | NOP w | ORA w | ASL w | SLO w |
| 1 | BPL r | ORA iy | JAM | SLO iy | NOP zx | ORA zx | ASL zx | SLO zx | CLC | ORA wy | NOP | SLO wy | NOP wx | ORA wx | ASL wx | SLO wx |
| 2 | JSR w | AND ix | JAM | RLA ix | BIT z | AND z | ROL z | RLA z | PLP | AND i | ROL a | ANC i | BIT w | AND w | ROL w | RLA w |
| 3 | BMI r | AND iy | JAM | RLA iy | NOP zx | AND zx | ROL zx | RLA zx | SEC | AND wy | NOP | RLA wy | NOP wx | AND wx | ROL wx | RLA wx |
| 4 | RTI | EOR ix | JAM | SRE ix | NOP z | EOR z | LSR z | SRE z | PHA | EOR i | LSR a | ALR i | JMP w | EOR w | LSR w | SRE w |
| 5 | BVC r | EOR iy | JAM | SRE iy | NOP zx | EOR zx | LSR zx | SRE zx | CLI | EOR wy | NOP | SRE wy | NOP wx | EOR wx | LSR wx | SRE wx |
| 6 | RTS | ADC ix | JAM | RRA ix | NOP z | ADC z | ROR z | RRA z | PLA | ADC i | ROR a | ARR i | JMP n | ADC w | ROR w | RRA w |
| 7 | BVS r | ADC iy | JAM | RRA iy | NOP zx | ADC zx | ROR zx | RRA zx | SEI | ADC wy | NOP | RRA wy | NOP wx | ADC wx | ROR wx | RRA wx |
| 8 | NOP i | STA ix | NOP i | SAX ix | STY z | STA z | STX z | SAX z | DEY | NOP i | TXA | (NOP i) | STY w | STA w | STX w | SAX w |
| 9 | BCC r | STA iy | JAM | (NOP iy) | STY zx | STA zx | STX zy | SAX zy | TYA | STA wy | TXS | (NOP wy) | (NOP wx) | STA wx | (NOP wy) | (NOP wy) |
| A | LDY i | LDA ix | LDX i | LAX ix | LDY z | LDA z | LDX z | LAX z | TAY | LDA i | TAX | (NOP i) | LDY w | LDA w | LDX w | LAX w |
| B | BCS r | LDA iy | JAM | LAX iy | LDY zx | LDA zx | LDX zy | LAX zy | CLV | LDA wy | TSX | LAS wy | LDY wx | LDA wx | LDX wy | LAX wy |
| C | CPY i | CMP ix | NOP i | DCP ix | CPY z | CMP z | DEC z | DCP z | INY | CMP i | DEX | SBX i | CPY w | CMP w | DEC w | DCP w |
| D | BNE r | CMP iy | JAM | DCP iy | NOP zx | CMP zx | DEC zx | DCP zx | CLD | CMP wy | NOP | DCP wy | NOP wx | CMP wx | DEC wx | DCP wx |
| E | CPX i | SBC ix | NOP i | ISC ix | CPX z | SBC z | INC z | ISC z | INX | SBC i | NOP | SBC i | CPX w | SBC w | INC w | ISC w |
| F | BEQ r | SBC iy | JAM | ISC iy | NOP zx | SBC zx | INC zx | ISC zx | SED | SBC wy | NOP | ISC wy | NOP wx | SBC wx | INC wx | ISC wx |
`

var toldModes = map[string]api.Mode{"": api.ModeImp, "a": api.ModeAcc, "i": api.ModeImm, "z": api.ModeZp, "zx": api.ModeZpx, "zy": api.ModeZpy,
	"w": api.ModeAbs, "wx": api.ModeAbx, "wy": api.ModeAby, "n": api.ModeInd, "ix": api.ModeIzx, "iy": api.ModeIzy, "r": api.ModeRel}

// cell is an opcode by the chapter.
type cell struct {
	name     string
	letters  string
	mode     api.Mode
	brackets bool
}

// cells is the chapter's table, opcode by opcode.
var cells = func() (all [256]cell) {
	for high, line := range strings.Split(strings.TrimSpace(toldTable), "\n") {
		for low, text := range strings.Split(strings.Trim(line, "| "), "|")[1:] {
			text = strings.TrimSpace(text)
			c := cell{brackets: strings.HasPrefix(text, "(")}
			c.name, c.letters, _ = strings.Cut(strings.Trim(text, "()"), " ")
			c.mode = toldModes[c.letters]
			all[16*high+low] = c
		}
	}
	return all
}()

func among(name, list string) bool { return slices.Contains(strings.Fields(list), name) }

func toldClass(code uint8) int {
	c := cells[code]
	switch {
	case c.name == "JAM":
		return api.Jamming
	case c.brackets:
		return api.Filler
	case among(c.name, "ALR ANC ARR DCP ISC LAS LAX RLA RRA SAX SBX SLO SRE"), c.name == "SBC" && code == 0xeb, c.name == "NOP" && code != 0xea:
		return api.Undocumented
	}
	return api.Documented
}

func toldKind(code uint8) api.Kind {
	c := cells[code]
	switch {
	case among(c.name, "BCC BCS BEQ BMI BNE BPL BVC BVS"):
		return api.KindBranch
	case c.name == "JMP":
		return api.KindJump
	case c.name == "JSR":
		return api.KindCall
	case among(c.name, "RTS RTI"):
		return api.KindReturn
	case c.name == "BRK":
		return api.KindBreak
	case among(c.name, "PHA PHP"):
		return api.KindPush
	case among(c.name, "PLA PLP"):
		return api.KindPull
	case c.name == "JAM":
		return api.KindJam
	case among(c.letters, "a i") || c.letters == "":
		return api.KindPlain
	case among(c.name, "STA STX STY SAX"):
		return api.KindWrite
	case among(c.name, "ASL LSR ROL ROR DEC INC SLO RLA SRE RRA DCP ISC"):
		return api.KindRmw
	case c.brackets:
		return api.KindFixed
	}
	return api.KindRead
}

func toldLen(code uint8) int {
	switch {
	case among(cells[code].letters, "a") || cells[code].letters == "":
		return 1
	case among(cells[code].letters, "w wx wy n"):
		return 3
	}
	return 2
}

// accNames is the accesses in the order of their numbers.
var accNames = strings.Fields("Fetch Operand Next Zero Low High Wrong Read Back Write Stack Push Pull VecLow VecHigh")

// accsOf is accesses by their names.
func accsOf(words string) []api.Acc {
	var l []api.Acc
	for _, w := range strings.Fields(words) {
		l = append(l, api.Acc(slices.Index(accNames, w)))
	}
	return l
}

func toldShape(code uint8, crossed, taken bool) []api.Acc {
	c, kind := cells[code], toldKind(code)
	if kind == api.KindBranch {
		switch {
		case taken && crossed:
			return accsOf("Fetch Operand Next Wrong")
		case taken:
			return accsOf("Fetch Operand Next")
		}
		return accsOf("Fetch Operand")
	}
	whole := map[string]string{"JMP w": "Fetch Operand Operand", "JMP n": "Fetch Operand Operand Low High", "JSR w": "Fetch Operand Stack Push Push Operand",
		"RTS ": "Fetch Next Stack Pull Pull Operand", "RTI ": "Fetch Next Stack Pull Pull Pull", "BRK ": "Fetch Operand Push Push Push VecLow VecHigh",
		"PHA ": "Fetch Next Push", "PHP ": "Fetch Next Push", "PLA ": "Fetch Next Stack Pull", "PLP ": "Fetch Next Stack Pull", "JAM ": "Fetch"}
	if s := whole[c.name+" "+c.letters]; s != "" {
		return accsOf(s)
	}
	if kind == api.KindPlain {
		if c.letters == "i" {
			return accsOf("Fetch Operand")
		}
		return accsOf("Fetch Next")
	}
	words := map[string]string{"z": "Fetch Operand", "zx": "Fetch Operand Zero", "zy": "Fetch Operand Zero", "w": "Fetch Operand Operand", "wx": "Fetch Operand Operand",
		"wy": "Fetch Operand Operand", "ix": "Fetch Operand Zero Low High", "iy": "Fetch Operand Low High"}[c.letters]
	if among(c.letters, "wx wy iy") && (crossed || kind != api.KindRead) {
		words += " Wrong"
	}
	end := map[api.Kind]string{api.KindRead: " Read", api.KindFixed: " Read", api.KindWrite: " Write", api.KindRmw: " Read Back Write"}
	return accsOf(words + end[kind])
}

func toldEncode(op api.Op, mode api.Mode) (uint8, api.Errno) {
	if op < 0 || int(op) >= len(names) {
		return 0, api.ErrName
	}
	found := -1
	for code := 255; code >= 0; code-- {
		if c := cells[code]; c.name == names[op] && c.mode == mode && !c.brackets {
			if found < 0 || toldClass(uint8(found)) != api.Documented {
				found = code
			}
		}
	}
	if found < 0 {
		return 0, api.ErrMode
	}
	return uint8(found), api.OK
}

func toldLine(code []byte, pc uint16) (string, api.Errno) {
	if len(code) == 0 || len(code) < toldLen(code[0]) {
		return "", api.ErrShort
	}
	c := cells[code[0]]
	line := c.name
	if best, e := toldEncode(opOf(c.name), c.mode); e != api.OK || best != code[0] {
		line += fmt.Sprintf(".%02X", code[0])
	}
	one, two := 0, 0
	if toldLen(code[0]) > 1 {
		one = int(code[1])
	}
	if toldLen(code[0]) > 2 {
		two = 256*int(code[2]) + one
	}
	far := one
	if far > 127 {
		far -= 256
	}
	switch c.letters {
	case "a":
		line += " A"
	case "i":
		line += fmt.Sprintf(" #$%02X", one)
	case "z":
		line += fmt.Sprintf(" $%02X", one)
	case "zx":
		line += fmt.Sprintf(" $%02X,X", one)
	case "zy":
		line += fmt.Sprintf(" $%02X,Y", one)
	case "w":
		line += fmt.Sprintf(" $%04X", two)
	case "wx":
		line += fmt.Sprintf(" $%04X,X", two)
	case "wy":
		line += fmt.Sprintf(" $%04X,Y", two)
	case "n":
		line += fmt.Sprintf(" ($%04X)", two)
	case "ix":
		line += fmt.Sprintf(" ($%02X,X)", one)
	case "iy":
		line += fmt.Sprintf(" ($%02X),Y", one)
	case "r":
		line += fmt.Sprintf(" $%04X", (65536+int(pc)+2+far)%65536)
	}
	return line, api.OK
}

// toldForm is a whole line: the name, the opcode, the operand.
var toldForm = regexp.MustCompile(`(?s)^([A-Za-z]{3})(?:\.([0-9A-Fa-f]{2}))?(?: ([Aa]|#\$[0-9A-Fa-f]{2}|\$[0-9A-Fa-f]{2}(?:[0-9A-Fa-f]{2})?(?:,[XxYy])?|\(\$[0-9A-Fa-f]{4}\)|\(\$[0-9A-Fa-f]{2},[Xx]\)|\(\$[0-9A-Fa-f]{2}\),[Yy]))?$`)

// toldEnds is endings of which some turns every beginning of a line that has the form into such a line.
var toldEnds = strings.Split("|0|00|.00|000|0000| A|A|#$00|$00|$|(|,X|X|,Y|Y|)|),Y|0),Y|0,X)|,X)|X)|00,X)|$00,X)|00)|0)|00),Y|000)|0000)", "|")

// toldPlace is the length of the longest beginning that some ending turns into a line of the form.
func toldPlace(line string) int {
	for n := len(line); n > 3; n-- {
		for _, end := range toldEnds {
			if toldForm.MatchString(line[:n] + end) {
				return n
			}
		}
	}
	return 3
}

// toldOperand is the mode of an operand's text, for a name, and its number.
func toldOperand(name, text string) (api.Mode, int) {
	text = strings.ToUpper(text)
	v := 0
	fmt.Sscanf(strings.Trim(text, "#$(),XY"), "%X", &v)
	shape := regexp.MustCompile(`\$[0-9A-F]+`).ReplaceAllStringFunc(text, func(s string) string { return map[int]string{3: "8", 5: "16"}[len(s)] })
	mode := map[string]api.Mode{"": api.ModeImp, "A": api.ModeAcc, "#8": api.ModeImm, "8": api.ModeZp, "8,X": api.ModeZpx, "8,Y": api.ModeZpy,
		"16": api.ModeAbs, "16,X": api.ModeAbx, "16,Y": api.ModeAby, "(16)": api.ModeInd, "(8,X)": api.ModeIzx, "(8),Y": api.ModeIzy}[shape]
	if mode == api.ModeAbs && among(name, "BCC BCS BEQ BMI BNE BPL BVC BVS") {
		mode = api.ModeRel
	}
	return mode, v
}

func toldRead(line string, pc uint16) ([]byte, api.Errno, int) {
	if len(line) > 32 {
		return nil, api.ErrLong, 0
	}
	if len(line) < 3 || opOf(strings.ToUpper(line[:3])) < 0 {
		return nil, api.ErrName, 0
	}
	name := strings.ToUpper(line[:3])
	m := toldForm.FindStringSubmatch(line)
	if m == nil {
		return nil, api.ErrLine, toldPlace(line)
	}
	mode, v := toldOperand(name, m[3])
	place := len(line) - len(m[3])
	code, e := toldEncode(opOf(name), mode)
	if m[2] != "" {
		n := 0
		fmt.Sscanf(strings.ToUpper(m[2]), "%X", &n)
		if cells[n].name != name {
			return nil, api.ErrName, 3
		}
		code, e = uint8(n), api.OK
		if cells[n].mode != mode {
			e = api.ErrMode
		}
	}
	if e != api.OK {
		return nil, e, place
	}
	if mode == api.ModeRel {
		for b := range 256 {
			if _, there := toldOperand("", must(toldLine([]byte{code, uint8(b)}, pc))); there == v {
				return []byte{code, uint8(b)}, api.OK, 0
			}
		}
		return nil, api.ErrRange, place
	}
	return []byte{code, uint8(v % 256), uint8(v / 256)}[:toldLen(code)], api.OK, 0
}

// must is the operand of a line that has come out.
func must(line string, _ api.Errno) string {
	_, operand, _ := strings.Cut(line, " ")
	return operand
}
