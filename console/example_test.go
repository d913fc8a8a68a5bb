package console_test

import (
	"strings"
	"testing"

	"tandem/api"
)

// 18.7, row by row. (A bar in the chapter's table is written PIPE, here too.)
func TestExamples(t *testing.T) {
	for _, x := range []struct {
		commands, want string
		e              api.Errno
		line           int
	}{
		{"regs\nrun 7\nregs", "pc=0000 a=00 x=00 y=00 s=00 p=20 take=3 jam=0 cycle=0\nran 7\npc=C000 a=00 x=00 y=00 s=FD p=24 take=0 jam=0 cycle=7\n", api.OK, 0},
		{"run 1\ntrace 3\nevents", "ran 7\nC000: LDX #$05 PIPE a=00 x=00 y=00 s=FD p=24 take=0 jam=0 cycle=7\nC002: DEX PIPE a=00 x=05 y=00 s=FD p=24 take=0 jam=0 cycle=9\nC003: BNE $C002 PIPE a=00 x=04 y=00 s=FD p=24 take=0 jam=0 cycle=11\nevents 1\nRESET 0000 00 FFFC @0\n", api.OK, 0},
		{"list $c000 4\npeek $ffff 2", "C000: LDX #$05\nC002: DEX\nC003: BNE $C002\nC005: JMP $C000\nFFFF: C0 00\n", api.OK, 0},
		{"run 7\nrun 50\nstats\nflush\nengine interp\nstats", "ran 7\nran 51\nstats steps=3 blocks=9 hits=7 misses=4 evicted=0 dropped=0 guards=0 stores=0 flushes=0 cached=4\nflushed 4\nengine interp\nstats none\n", api.OK, 0},
		{"pads 1 $Ff\npads 256 0", "pads 01 FF\n", api.ErrNumber, 2},
		{"run 7\njump", "ran 7\n", api.ErrWord, 2},
		{"script 3\nscript 1\nPIPE0PIPE7PIPE........PIPE........PIPE\nPIPE0PIPE5PIPER......APIPE........PIPE x2\nregs", "played 3 19\npc=C002 a=00 x=03 y=00 s=FD p=24 take=0 jam=0 cycle=19\n", api.OK, 0},
		{"save 0\nrun 7\nsave 1\nload 0\nregs", "saved 0 6688\nran 7\nsaved 1 6688\nloaded 0\npc=0000 a=00 x=00 y=00 s=00 p=20 take=3 jam=0 cycle=0\n", api.OK, 0},
		{"mark\nrun 7\nmark\nrun 2\nback\nback\nback", "marked 1\nran 7\nmarked 2\nran 2\nback 1\nback 0\n", api.ErrEmpty, 7},
		{"run 7\nreset\nregs\npower\nregs", "ran 7\nreset\npc=C000 a=00 x=00 y=00 s=FD p=24 take=3 jam=0 cycle=7\npower\npc=0000 a=00 x=00 y=00 s=00 p=20 take=3 jam=0 cycle=0\n", api.OK, 0},
		{"load 3", "", api.ErrSlot, 1},
		{"back", "", api.ErrEmpty, 1},
		{"engine dbt 0 0", "", api.ErrSize, 1},
		{"engine dbt 1 65", "", api.ErrLimit, 1},
		{"engine slow", "", api.ErrNumber, 1},
	} {
		commands, want := strings.ReplaceAll(x.commands, "PIPE", "|"), strings.ReplaceAll(x.want, "PIPE", "|")
		refuses(t, "18.7", cartL, commands, want, x.e, x.line)
	}
	other := imageOf(0xad, 0x02, 0x20, 0x00, 0xfd, 0x4c, 0x00, 0xc0)
	answers(t, "18.7", other, "run 11\nlog\nrun 1\nevents", "ran 11\nlog 1\nR 2002 00 @10\nran 7\nevents 2\nRESET 0000 00 FFFC @0\nBRK C005 36 FFFE @11\n")
}
