package console_test

import (
	"fmt"
	"strings"
	"testing"

	"tandem/api"
	"tandem/asm"
	"tandem/cart"
	"tandem/console"
)

// imageOf is the chapter's kind of image: mapper 0, one unit of PRG (seen from $8000 and from $C000 on) that begins with code, no CHR, all vectors $C000.
func imageOf(code ...byte) []byte {
	b := make([]byte, 16+16384)
	copy(b, []byte{'N', 'E', 'S', 0x1a, 1})
	copy(b[16:], code)
	for i := range 3 {
		b[16+0x3ffa+2*i+1] = 0xc0
	}
	return b
}

// cartL is the chapter's cartridge L.
var cartL = imageOf(0xa2, 0x05, 0xca, 0xd0, 0xfd, 0x4c, 0x00, 0xc0)

// frame is what most sources have ahead of them: the vectors, and then $C000.
const frame = ".inesprg 1\n.bank 1\n.org $fffa\n .word nmi, start, irq\n.bank 0\n.org $c000\n"

// built is the image of a source that is told without its frame.
func built(t testing.TB, source string) []byte {
	t.Helper()
	image, err := asm.Image(frame + source)
	if err != nil {
		t.Fatalf("%v in %s", err, frame+source)
	}
	return image
}

// batteried is the image with a battery.
func batteried(image []byte) []byte {
	b := append([]byte{}, image...)
	b[6] |= 2
	return b
}

// partOf is an image's cartridge.
func partOf(t testing.TB, image []byte) api.Cart {
	t.Helper()
	c, e, place := cart.Parse(image)
	if e != api.OK {
		t.Fatalf("cart.Parse: %d at %d", e, place)
	}
	return c
}

// short is a text in few words.
func short(text string) string {
	if len(text) > 400 {
		return fmt.Sprintf("%.200q .. %q (%d bytes)", text, text[len(text)-200:], len(text))
	}
	return fmt.Sprintf("%q", text)
}

// answers asks that Play does all of the commands and answers a text.
func answers(t testing.TB, what string, image []byte, commands, want string) {
	t.Helper()
	refuses(t, what, image, commands, want, api.OK, 0)
}

// refuses asks for all that Play answers.
func refuses(t testing.TB, what string, image []byte, commands, want string, e api.Errno, line int) {
	t.Helper()
	text, ge, gl := console.Play(image, commands)
	if text != want || ge != e || gl != line {
		t.Errorf("%s: Play(.., %s) = %s, %d, %d; want %s, %d, %d", what, short(commands), short(text), ge, gl, short(want), e, line)
	}
}

// done is what Play answers to commands that must all be done.
func done(t testing.TB, what string, image []byte, commands string) string {
	t.Helper()
	text, e, line := console.Play(image, commands)
	if e != api.OK || line != 0 {
		t.Fatalf("%s: Play(.., %s) = %s, %d, %d", what, short(commands), short(text), e, line)
	}
	return text
}

// lines is texts, each with a line feed behind it.
func lines(list ...string) string {
	if len(list) == 0 {
		return ""
	}
	return strings.Join(list, "\n") + "\n"
}

// last is the last line of a text.
func last(text string) string {
	l := strings.Split(strings.TrimSuffix(text, "\n"), "\n")
	return l[len(l)-1]
}

// only is the lines of a text that begin so.
func only(text, beginning string) string {
	l := []string{}
	for _, line := range strings.Split(text, "\n") {
		if strings.HasPrefix(line, beginning) {
			l = append(l, line)
		}
	}
	return lines(l...)
}

// engines is the lines that ask for an engine: all three, the translator with several policies.
var engines = []string{"engine step", "engine interp", "engine dbt 64 16", "engine dbt 1 1", "engine dbt 65536 64", "engine dbt 7 3"}

// regs is what a new machine answers to regs, and what cartL does behind its reset entry.
const (
	newRegs   = "pc=0000 a=00 x=00 y=00 s=00 p=20 take=3 jam=0 cycle=0"
	afterBoot = "pc=C000 a=00 x=00 y=00 s=FD p=24 take=0 jam=0 cycle=7"
)
