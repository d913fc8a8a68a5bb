package console_test

import (
	"errors"
	"strings"
	"testing"

	"tandem/api"
	"tandem/asm"
	"tandem/console"
)

// P18.2: Build is asm.Image's refusal, or what Play answers of the image.
func TestBuild(t *testing.T) {
	const loop = ".org $8000\nstart: inx\n jmp start\n.bank 1\n.org $fffc\n.word start\n"
	for _, x := range []struct {
		commands, want string
		e              api.Errno
		line           int
	}{
		{"", "", api.OK, 0},
		{"run 7\ntrace 2", "ran 7\n8000: INX | a=00 x=00 y=00 s=FD p=24 take=0 jam=0 cycle=7\n8001: JMP $8000 | a=00 x=01 y=00 s=FD p=24 take=0 jam=0 cycle=9\n", api.OK, 0},
		{"run 7\n\nrun", "ran 7\n", api.ErrNumber, 3},
		{"jump", "", api.ErrWord, 1},
		{"script 2\nscript 1\nx", "", api.ErrRecord, 3},
		{strings.Repeat("\n", api.MaxPlay), "", api.OK, 0},
		{strings.Repeat("\n", api.MaxPlay+1), "", api.ErrLong, 0},
	} {
		text, e, line, err := console.Build(loop, x.commands)
		if text != x.want || e != x.e || line != x.line || err != nil {
			t.Errorf("P18.2: Build(.., %s) = %s, %d, %d, %v; want %s, %d, %d", short(x.commands), short(text), e, line, err, short(x.want), x.e, x.line)
		}
	}
	// The empty source is a cartridge of zeros.
	if text, e, line, err := console.Build("", "run 14\nregs"); text != zeros(t) || e != api.OK || line != 0 || err != nil {
		t.Errorf("P18.2: Build of nothing: %q, %d, %d, %v", text, e, line, err)
	}
}

// zeros is what a cartridge of zeros answers.
func zeros(t *testing.T) string {
	t.Helper()
	return done(t, "zeros", append(imageOf()[:16], make([]byte, 16384)...), "run 14\nregs")
}

// P18.2: what asm.Image refuses is not played, whatever the commands are: its own error is told.
func TestBuildRefused(t *testing.T) {
	for src, want := range map[string]error{
		" lda #300\n": asm.ErrRange, " foo": asm.ErrName, "\n\n lda": asm.ErrMode, ".inesprg 0": asm.ErrRange, " .bank 2\n .byte 1": asm.ErrOver,
		" lda nowhere": asm.ErrUnknown, strings.Repeat(" ", api.MaxSource+1): asm.ErrSize, "\x00": asm.ErrToken, " .if 1": asm.ErrDirective,
	} {
		_, told := asm.Image(src)
		for _, commands := range []string{"", "regs", "jump", strings.Repeat("\n", api.MaxPlay+1)} {
			text, e, line, err := console.Build(src, commands)
			if text != "" || e != api.OK || line != 0 || !errors.Is(err, want) || err.Error() != told.Error() {
				t.Errorf("P18.2: Build(%s, %s) = %q, %d, %d, %v; want %v", short(src), short(commands), text, e, line, err, told)
			}
			var f *asm.Fault
			if !errors.As(err, &f) || f.Line < 1 {
				t.Errorf("P18.2: Build(%s): the error is %T", short(src), err)
			}
		}
	}
	// An image that no board carries: the assembler makes it, Play refuses it.
	if text, e, line, err := console.Build(".inesmap 5\n", "regs"); text != "" || e != api.ErrImage || line != 0 || err != nil {
		t.Errorf("P18.2: Build of mapper 5: %q, %d, %d, %v", text, e, line, err)
	}
}
