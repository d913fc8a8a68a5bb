package console

import (
	"fmt"
	"math/rand"
	"slices"
	"strings"
	"testing"

	"tandem/api"
	"tandem/asm"
	"tandem/bus"
	"tandem/dbt"
	"tandem/interp"
)

// What no text of commands leads to in a test's time: the end of all cycles. And what the package does otherwise than the chapter's words, though with the same answers.

const insideSource = `.inesprg 2
.inesmap 1
.ineschr 1
.bank 2
.org $c000
start: lda #$88
 sta $2000
 lda #$40
 sta $4017
 lda #99
 sta $4018
 lda #$83
 sta $401a
 cli
loop: inc $10
 lda $10
 sta $6000
 sta $0206
 jsr copy
 sta $2007
 lsr a
 sta $8000
 lda $4016
 jmp loop
copy: ldx #8
@on: lda code-1,x
 sta $01ff,x
 dex
 bne @on
 jmp $0200
code: inc $0205
 nop
 lda #0
 rts
nmi: lda #2
 sta $4014
 rti
irq: pha
 lda $401b
 pla
 rti
.bank 3
.org $fffa
.word nmi, start, irq
`

func insideImage(t *testing.T, source string) []byte {
	t.Helper()
	image, err := asm.Image(source)
	if err != nil {
		t.Fatal(err)
	}
	return image
}

func insidePlayer(t *testing.T, source string) *player {
	t.Helper()
	p, ok := newPlayer(insideImage(t, source))
	if !ok {
		t.Fatal("the image is refused")
	}
	return p
}

// plain is a program of two cycles an instruction, three a jump, without interrupts.
const plain = ".org $c000\nstart: inx\n inx\n inx\n jmp start\n.bank 1\n.org $fffa\n.word start, start, start\n"

// late is a player whose machine stands so many cycles behind api.MaxCycle, at the program's beginning, on that engine.
func late(t *testing.T, engine string, behind int) *player {
	t.Helper()
	p := insidePlayer(t, plain)
	p.play([]string{"run 7", engine})
	s := *p.state()
	s.Mem.Cycle = api.MaxCycle + behind
	if e := p.replace(p.engine.from(&p.cart, &s)); e != api.OK {
		t.Fatalf("the late state is refused: %d", e)
	}
	p.at = 0
	p.text.Reset()
	return p
}

// P18.1, 18.3: a run, a step of a trace, or a turn of a script that the machine refuses.
func TestRefusedBudgets(t *testing.T) {
	at := func(cycle int) string { return fmt.Sprintf("cycle=%d\n", api.MaxCycle+cycle) }
	line := func(pc string, x, cycle int) string {
		return fmt.Sprintf("C00%s | a=00 x=%02X y=00 s=FD p=24 take=0 jam=0 %s", pc, x, at(cycle))
	}
	traced := line("0: INX", 0, -5) + line("1: INX", 1, -3) + line("2: INX", 2, -1)
	for _, engine := range []string{"engine step", "engine interp", "engine dbt 64 16", "engine dbt 1 1"} {
		for _, x := range []struct {
			behind   int
			commands string
			want     string
			e        api.Errno
			line     int
			cycle    int // behind it, counted from api.MaxCycle
		}{
			{-20, "run 20", "ran 20\n", api.OK, 0, 0},
			{-20, "run 21", "", api.ErrArg, 1, -20},
			{-20, "run 4294967295", "", api.ErrArg, 1, -20},
			{-20, "run 20\nrun 0\nrun 1\nregs", "ran 20\nran 0\n", api.ErrArg, 3, 0},
			{0, "run 0", "ran 0\n", api.OK, 0, 0},
			{0, "run 1", "", api.ErrArg, 1, 0},
			{1, "run 0", "", api.ErrArg, 1, 1},
			{7, "run 0", "", api.ErrArg, 1, 7},
			{-1, "run 1\nrun 0", "ran 2\n", api.ErrArg, 2, 1},
			{-5, "trace 3\nregs", traced + fmt.Sprintf("pc=C003 a=00 x=03 y=00 s=FD p=24 take=0 jam=0 %s", at(1)), api.OK, 0, 1},
			{-5, "trace 4\nregs", traced, api.ErrArg, 1, 1},
			{-5, "\ntrace 256\nregs", traced, api.ErrArg, 2, 1},
			{1, "trace 1", "", api.ErrArg, 1, 1},
			{-20, "script 2\nscript 1\n|0|5|........|........| x3\nregs", "played 3 18\n" + fmt.Sprintf("pc=C000 a=00 x=06 y=00 s=FD p=24 take=0 jam=0 %s", at(-2)), api.OK, 0, -2},
			{-20, "\nscript 4\nscript 1\n\n|0|5|........|........| x2\n|0|1000|R.......|.......A|\nregs", "", api.ErrArg, 2, -9},
			{-20, "script 3\nscript 1\n|1|21|R.......|.......A|\n|0|1|........|........|\nregs", "", api.ErrArg, 1, -20},
			{-20, "script 2\nscript 1\n|3|4294967295|R.......|.......A|", "", api.ErrArg, 1, -20},
			{1, "script 1\nscript 1", "played 0 0\n", api.OK, 0, 1},
		} {
			p := late(t, engine, x.behind)
			e, line := p.play(linesOf(x.commands))
			s := p.state()
			if got := p.text.String(); got != x.want || e != x.e || line != x.line || s.Mem.Cycle != api.MaxCycle+x.cycle {
				t.Errorf("18.3: %s, %q at MaxCycle and %d: %q, %d, %d, cycle MaxCycle and %d; want %q, %d, %d, %d", engine, x.commands, x.behind, got, e, line, s.Mem.Cycle-api.MaxCycle, x.want, x.e, x.line, x.cycle)
			}
			if x.e != api.OK && (s.Mem.Pads != api.Pads{} || s.Cpu.Take != api.TakeNone) {
				t.Errorf("18.3: %s, %q: a refused turn has done something: %+v, %+v", engine, x.commands, s.Mem.Pads, s.Cpu)
			}
		}
	}
}

// 18.3: a refused turn of a script flushes nothing, and what was played ahead of it has been.
func TestRefusedTurnFlushesNothing(t *testing.T) {
	p := late(t, "engine dbt 64 16", -40)
	p.play(linesOf("run 20\nscript 3\nscript 1\n|0|10|........|........|\n|3|1000|........|........|"))
	if s, cached, ok := p.engine.stats(); !ok || s.Flushes != 0 || cached == 0 {
		t.Errorf("18.3: a refused turn has flushed: %+v, %d", s, cached)
	}
}

// P18.1, P3: a refused line changes nothing: not the machine, its cache and counters, not the slots, the tape, or what has not been told. (But for trace and script, which go as far as they can.)
func TestRefusedLineChangesNothing(t *testing.T) {
	for _, engine := range []string{"engine step", "engine interp", "engine dbt 5 3"} {
		p := insidePlayer(t, insideSource)
		p.play([]string{engine, "run 30000", "save 1", "mark", "pads 1 2", "power", "run 3000", "events"})
		for _, refused := range []string{
			"jump", "run", "run x", "run 1 2", "pads 1", "pads 3 256", "pads 256 3", "reset 1", "power 1", "flush 1", "engine", "engine slow", "engine step 1", "engine interp 1", "engine dbt 1",
			"engine dbt 0 1", "engine dbt 65537 1", "engine dbt 1 0", "engine dbt 1 65", "engine dbt x 1", "regs 1", "peek 0 0", "peek 65536 1", "trace 0", "trace 257", "list 0 33", "log 1", "events 1",
			"stats 1", "sum 1", "save 10", "save x", "save 1 1", "load 0", "load 10", "load 1 1", "mark 1", "back 1", "warm", "warm 65536", "warm 49152 65536", "script 1", "script 0",
			"script 2\nscript 1\n|1|500|R.......|.......A|x", "script 3\nscript 1\n|3|500|R.......|.......A|\n|0|-1|........|........|",
		} {
			machine, was, text := p.engine, *p.state(), p.text.String()
			counters, cached, _ := p.engine.stats()
			slots, tape, untold := p.slots, p.tape.Bytes(), p.untold
			p.at = 0
			if e, line := p.play(strings.Split(refused, "\n")); e == api.OK || line == 0 {
				t.Fatalf("P18.1: %s: %q is done", engine, refused)
			}
			again, cachedNow, _ := p.engine.stats()
			same := p.engine == machine && *p.state() == was && p.text.String() == text && again == counters && cachedNow == cached && p.tape.Len() == 1 && p.tape.Bytes() == tape
			for i := range slots {
				same = same && slices.Equal(p.slots[i], slots[i]) && (p.slots[i] == nil) == (slots[i] == nil)
			}
			if !same || !slices.Equal(p.untold.accesses, untold.accesses) || !slices.Equal(p.untold.events, untold.events) {
				t.Errorf("P18.1: %s: %q is refused, but something has been done", engine, refused)
			}
		}
		p.at = 0
		if e, _ := p.play([]string{"log", "events", "load 1", "back"}); e != api.OK || len(p.untold.accesses) != 0 || p.state().Mem.Cycle < 30000 {
			t.Errorf("P18.1: %s: what is left behind refused lines can't be played: %d", engine, e)
		}
		p.at = 0
		was := *p.state()
		if e, _ := p.play([]string{"back"}); e != api.ErrEmpty || *p.state() != was {
			t.Errorf("P18.1: %s: back on an empty tape: %d", engine, e)
		}
	}
}

// 18.3: where pads.Parse tells line 0, the line is script's own. (The text must be longer than any commands are.)
func TestScriptToldLineZero(t *testing.T) {
	p := insidePlayer(t, plain)
	p.lines, p.at = make([]string, 9), 5
	if e := p.playScript("script 1\n" + strings.Repeat("\n", api.MaxScript)); e != api.ErrLong || p.at != 5 || p.text.Len() != 0 {
		t.Errorf("18.3: a long script: %d, line %d, %q", e, p.at, p.text.String())
	}
	long := "script 1\n" + strings.Repeat("\n", api.MaxScript-18) // with its own line it is as long as a text may be, and a byte more
	p.lines = append([]string{"script 65528"}, strings.Split(long, "\n")...)
	p.at = 1
	if e := p.script([]int{len(p.lines) - 1}); e != api.OK || p.at != len(p.lines) || p.text.String() != "played 0 0\n" {
		t.Errorf("18.3: a script of %d bytes: %d, line %d, %q", len(long), e, p.at, p.text.String())
	}
}

// The translator's turn, pass by pass, is dbt's own turn: the same answers, states, logs, counters; and no list of entries is kept.
func TestTurnByPasses(t *testing.T) {
	p := insidePlayer(t, insideSource)
	r := rand.New(rand.NewSource(1))
	for _, policy := range [][2]int{{64, 16}, {1, 1}, {5, 64}} {
		own, _ := dbt.New(p.cart, policy[0], policy[1])
		other, _ := dbt.New(p.cart, policy[0], policy[1])
		e := byBlocks{other, policy[0], policy[1]}
		for range 200 {
			turn := api.Turn{Budget: uint32(r.Intn(1 << r.Intn(13))), One: uint8(r.Intn(256)), Two: uint8(r.Intn(256)), Reset: r.Intn(20) == 0, Flush: r.Intn(10) == 0}
			n, no := own.Play(turn)
			k, ko := e.Play(turn)
			if n != k || no != ko || own.State() != other.State() || own.Stats() != other.Stats() || !slices.Equal(own.Keys(), other.Keys()) {
				t.Fatalf("P15.3: %+v: %d, %d and %d, %d; %+v and %+v", turn, n, no, k, ko, own.Stats(), other.Stats())
			}
			if len(other.Entries()) != 0 {
				t.Fatal("entries are kept")
			}
		}
		if !slices.Equal(own.Log(), other.Log()) || !slices.Equal(own.Events(), other.Events()) || own.Stats().Stores == 0 && policy[1] > 1 {
			t.Fatalf("P15.3: other logs, or the test asks too little: %+v", own.Stats())
		}
	}
}

// look is bus.Peek, at all addresses.
func TestLookIsPeek(t *testing.T) {
	for i, mapper := range []int{0, 1, 2, 3, 4, 7, 0, 4} {
		image := insideImage(t, strings.Replace(insideSource, ".inesmap 1", fmt.Sprintf(".inesmap %d", mapper), 1))
		if i > 5 { // a format in which the image says that there is no work RAM
			image[7], image[8], image[10] = 8, 0, 0
		}
		p, ok := newPlayer(image)
		if !ok {
			t.Fatal("the image is refused")
		}
		m, _ := interp.New(p.cart)
		r := rand.New(rand.NewSource(int64(i)))
		for range 3 {
			m.Play(api.Turn{Budget: uint32(r.Intn(40000)), One: uint8(r.Intn(256))})
			for range r.Intn(4) {
				m.Bus().Write(uint16(0x2000+r.Intn(0x2020)), uint8(r.Intn(256)))
				m.Bus().Write(uint16(0x8000+r.Intn(0x8000)), uint8(r.Intn(256)))
				m.Bus().Write(uint16(r.Intn(0x2000)), uint8(r.Intn(256)))
			}
			s := m.State()
			b, e := bus.From(p.cart, s.Mem)
			if e != api.OK {
				t.Fatalf("bus.From: %d", e)
			}
			kept := s
			all := look(&p.cart, &s, 0, 65536)
			for addr, v := range all {
				if v != b.Peek(uint16(addr)) {
					t.Fatalf("mapper %d: look(%04X) is %02X, Peek %02X", mapper, addr, v, b.Peek(uint16(addr)))
				}
			}
			for _, addr := range []uint16{0xffff, 0x1ffe, 0x3fff, 0x5ffe, 0x7ffe, 0xfff0} {
				for i, v := range look(&p.cart, &s, addr, 32) {
					if v != all[uint16(int(addr)+i)] {
						t.Fatalf("mapper %d: look(%04X), byte %d: %02X", mapper, addr, i, v)
					}
				}
			}
			if s != kept {
				t.Fatal("look changes the state")
			}
		}
	}
}

// 18.6: three engines, one interface.
func TestEngines(t *testing.T) {
	p := insidePlayer(t, insideSource)
	for _, x := range []struct{ line, kind string }{
		{"", "console.byBlocks"}, {"engine step", "console.byCycles"}, {"engine interp", "console.byInstructions"}, {"engine dbt 3 4", "console.byBlocks"},
	} {
		for _, line := range []string{x.line, "power", "save 0", "load 0", "mark", "back"} {
			if e, _ := p.play([]string{line}); e != api.OK {
				t.Fatalf("%q: %d", line, e)
			}
			p.at = 0
			if kind := fmt.Sprintf("%T", p.engine); kind != x.kind {
				t.Errorf("18.6: behind %q and %q the engine is a %s, want %s", x.line, line, kind, x.kind)
			}
		}
	}
	if b := p.engine.(byBlocks); b.size != 3 || b.limit != 4 {
		t.Errorf("18.3: the translator has %d slots and the limit %d", b.size, b.limit)
	}
}
