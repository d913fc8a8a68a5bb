package console_test

import (
	"fmt"
	"strings"
	"testing"

	"tandem/api"
)

// busy is a program that touches devices, is interrupted, copies a page into OAM, and calls code in RAM that writes over itself.
const busy = `
start: ldx #$ff
 txs
 lda #$88
 sta $2000
 lda #$40
 sta $4017
 lda #200
 sta $4018
 lda #0
 sta $4019
 lda #$83
 sta $401a
 ldx #5
@copy: lda code,x
 sta $0300,x
 dex
 bpl @copy
 cli
loop: inc $10
 lda $10
 sta $6000
 ldy $10
 sta $6100,y
 jsr $0300
 sta $2007
 lda $4016
 jmp loop
code: inc $0304
 lda #0
 rts
nmi: inc $12
 lda #3
 sta $4014
 rti
irq: inc $13
 pha
 lda $401b
 pla
 rti
`

// blocky is a program of so many blocks of one jump, and of straight pieces of 32 and 33 instructions, that any other number of slots, and a limit of one more or less, shows in the counters.
func blocky() []byte {
	code := []byte{}
	jump := func() {
		next := 0xc000 + len(code) + 3
		code = append(code, 0x4c, byte(next), byte(next>>8))
	}
	for range 70 {
		jump()
	}
	for _, n := range []int{31, 32} {
		for range n {
			code = append(code, 0xe8)
		}
		jump()
	}
	return append(code, 0x4c, 0x00, 0xc0)
}

// 18.2: the machine that Play makes is on the translator with 64 slots and a limit of 16.
func TestFirstEngine(t *testing.T) {
	image := imageOf(blocky()...)
	const commands = "run 5000\nstats"
	text := done(t, "first", image, commands)
	if again := done(t, "first", image, "engine dbt 64 16\n"+commands); again != "engine dbt 64 16\n"+text {
		t.Errorf("18.2: the first engine is not dbt 64 16: %s, %s", short(text), short(again))
	}
	for _, other := range []string{"63 16", "65 16", "64 15", "64 17", "1 1", "65536 64"} {
		if again := done(t, "first", image, "engine dbt "+other+"\n"+commands); again == "engine dbt "+other+"\n"+text {
			t.Errorf("18.2: the first engine can't be told from dbt %s", other)
		}
	}
}

// 18.3: a machine that goes on from its state is the one that it was, on whichever engine; and engine may be asked for again and again.
func TestEngineGoesOn(t *testing.T) {
	image := built(t, busy)
	at := func(commands string) string {
		text := done(t, "goes on", image, commands+"\nregs\npeek $10 4\npeek $6100 32\nsum\nsave 0\nlog\nevents")
		return text[strings.LastIndex(text, "pc="):]
	}
	want := at("engine step\nrun 1000\nrun 30000\nrun 7\nrun 4000\nrun 1")
	for i, one := range engines {
		two, three := engines[(i+1)%len(engines)], engines[(i+4)%len(engines)]
		for _, commands := range []string{
			one + "\nrun 1000\n" + two + "\nrun 30000\nrun 7\n" + three + "\nrun 4000\nrun 1",
			two + "\n" + three + "\n" + one + "\nrun 1000\n" + one + "\nrun 30000\n" + two + "\nrun 7\nrun 4000\n" + three + "\nrun 1\n" + two,
		} {
			if got := at(commands); got != want {
				t.Errorf("18.3: %q leads to %s, want %s", commands, short(got), short(want))
			}
		}
	}
}

// 18.3: what a machine goes on with: the same slots and limit, an empty cache, counters 0.
func TestCacheAnew(t *testing.T) {
	image := built(t, busy)
	const none = "stats steps=0 blocks=0 hits=0 misses=0 evicted=0 dropped=0 guards=0 stores=0 flushes=0 cached=0"
	for _, change := range []string{"power", "load 0", "back", "engine dbt 3 2", "engine step\nengine dbt 3 2", "engine interp\npower\nengine dbt 3 2"} {
		text := done(t, "anew", image, "engine dbt 3 2\nsave 0\nmark\nrun 3000\nflush\nrun 3000\nstats\n"+change+"\nstats\nrun 3000\nstats\n")
		l := strings.Split(only(text, "stats"), "\n")
		if l[0] == none || !strings.HasSuffix(l[0], "cached=3") || l[1] != none {
			t.Errorf("18.3: %s: the counters were %q, are %q", change, l[0], l[1])
		}
		// The same machine with the same slots and limit counts alike; with others it does not.
		from := strings.Replace(text[:strings.Index(text, "saved")], "\n", "", 1)
		if from != "engine dbt 3 2" {
			t.Fatal(from)
		}
		again := done(t, "anew", image, "engine dbt 3 2\nsave 0\nmark\nrun 3000\nflush\nrun 3000\n"+change+"\nsave 1\nengine dbt 3 2\nload 1\nrun 3000\nstats\n")
		if last(again) != l[2] {
			t.Errorf("18.3: %s: the counters behind a run are %q, want %q", change, l[2], last(again))
		}
		for _, other := range []string{"3 1", "3 3", "2 2", "4 2", "64 16"} {
			again := done(t, "anew", image, "engine dbt 3 2\nsave 0\nmark\nrun 3000\nflush\nrun 3000\n"+change+"\nengine dbt "+other+"\nrun 3000\nstats\n")
			if last(again) == l[2] {
				t.Errorf("18.3: %s: the counters can't be told from those of dbt %s", change, other)
			}
		}
	}
}

// 18.3: flush, stats and warm, where there is a cache and where there is none.
func TestCache(t *testing.T) {
	const none = "stats steps=0 blocks=0 hits=0 misses=0 evicted=0 dropped=0 guards=0 stores=0 flushes=0 cached=0"
	answers(t, "flush", cartL, "stats\nflush\nstats\nrun 50\nstats\nflush\nflush\nstats", lines(none, "flushed 0",
		"stats steps=0 blocks=0 hits=0 misses=0 evicted=0 dropped=0 guards=0 stores=0 flushes=1 cached=0", "ran 50",
		"stats steps=2 blocks=8 hits=6 misses=3 evicted=0 dropped=0 guards=0 stores=0 flushes=1 cached=3", "flushed 3", "flushed 0",
		"stats steps=2 blocks=8 hits=6 misses=3 evicted=0 dropped=0 guards=0 stores=0 flushes=3 cached=0"))
	for _, engine := range engines[:2] {
		answers(t, engine, cartL, engine+"\nstats\nflush\nwarm $c000\nrun 50\nwarm 1 2 3 4 5 6 7 8 9 10 11 12 13 14 15 16\nflush\nstats",
			engine+"\nstats none\nflushed 0\nwarmed 0\nran 50\nwarmed 0\nflushed 0\nstats none\n")
	}
	// At $2000 nothing is translated, at $C008 stands a BRK.
	answers(t, "warm", cartL, "warm $c000 $c000 $2000 $c002 $c008\nstats\nflush\nengine dbt 1 4\nwarm $c000 $8000 $c000\nstats", lines("warmed 3",
		"stats steps=0 blocks=0 hits=0 misses=0 evicted=0 dropped=0 guards=0 stores=0 flushes=0 cached=2", "flushed 2", "engine dbt 1 4", "warmed 3",
		"stats steps=0 blocks=0 hits=0 misses=0 evicted=2 dropped=0 guards=0 stores=0 flushes=0 cached=1"))
	answers(t, "warm", cartL, "warm 0 65535 32767 8192\nwarm 49152\nrun 50\nstats", lines("warmed 0", "warmed 1", "ran 50",
		"stats steps=2 blocks=8 hits=7 misses=2 evicted=0 dropped=0 guards=0 stores=0 flushes=0 cached=3"))
	// Stores into blocks, guards, other keys in a slot, the flushes of a script.
	image := built(t, busy)
	commands := "run 9000\nstats\nscript 3\nscript 1\n|2|100|........|........| x3\n|3|0|........|........|\nstats\nrun 3000\nstats"
	for _, engine := range engines {
		told, _, _ := toldPlay(image, engine+"\n"+commands)
		answers(t, "stats", image, engine+"\n"+commands, told)
		if l := strings.Split(only(told, "stats"), "\n"); engine != "engine step" && engine != "engine interp" &&
			(!strings.Contains(l[1], " flushes=4 cached=0") || strings.Contains(l[2], "guards=0") || strings.Contains(l[2], "stores=0") && engine != "engine dbt 1 1") {
			t.Errorf("stats: %s: the test asks too little: %q", engine, l)
		}
	}
}

// 18.3: a refused engine, or any other refused line, ends the play; of what stands ahead of it nothing is lost.
func TestRefusedLines(t *testing.T) {
	for line, e := range map[string]api.Errno{
		"engine dbt 0 0": api.ErrSize, "engine dbt 65537 1": api.ErrSize, "engine dbt 64 65": api.ErrLimit, "engine slow": api.ErrNumber, "engine": api.ErrNumber,
		"load 1": api.ErrSlot, "run x": api.ErrNumber, "jump": api.ErrWord, "script 9\nscript 1": api.ErrNumber, "regs 1": api.ErrNumber,
	} {
		refuses(t, "refused", cartL, "run 20\nlog\nmark\n"+line+"\nregs", "ran 21\nlog 0\nmarked 1\n", e, 4)
	}
}

// 18.3: accesses and events that have not been told are told behind engine, power, load and back, ahead of later ones, each once.
func TestUntold(t *testing.T) {
	image := imageOf(0xad, 0x02, 0x20, 0x00) // LDA $2002, BRK to its beginning
	const (
		first = "R 2002 00 @10\n"
		boot  = "RESET 0000 00 FFFC @0\nBRK C005 36 FFFE @11\n"
	)
	for _, engine := range engines {
		for _, change := range append([]string{"power", "load 0", "back"}, engines...) {
			again := "ran 18\nlog 1\n" + first + "events 2\n" + boot
			if strings.HasPrefix(change, "engine") {
				again = "ran 22\nlog 2\nR 2002 00 @21\nR 2002 00 @32\nevents 2\nBRK C005 36 FFFE @22\nBRK C005 36 FFFE @33\n"
			}
			text := done(t, "untold", image, engine+"\nsave 0\nmark\nrun 18\n"+change+"\nlog\nevents\nlog\nevents\nrun 18\nlog\nevents\n")
			if want := "log 1\n" + first + "events 2\n" + boot + "log 0\nevents 0\n" + again; !strings.HasSuffix(text, want) {
				t.Errorf("18.3: untold: %s, %s: %q, want %q", engine, change, text, want)
			}
		}
		// Nothing asked between: all of it in one list, the earlier ones first.
		text := done(t, "untold", image, engine+"\nsave 0\nrun 18\nload 0\nrun 18\npower\nmark\nrun 18\nengine step\nback\nrun 18\nengine interp\nlog\nevents")
		if want := "log 4\n" + strings.Repeat(first, 4) + "events 8\n" + strings.Repeat(boot, 4); !strings.HasSuffix(text, want) {
			t.Errorf("18.3: untold: %s: %q", engine, text)
		}
	}
}

// 18.3: log and events word by word: reads and writes, all kinds of events.
func TestLogAndEvents(t *testing.T) {
	image := built(t, busy)
	for _, engine := range engines {
		text := done(t, "log", image, engine+"\nrun 40000\nevents\nlog\nevents\nlog")
		told, _, _ := toldPlay(image, engine+"\nrun 40000\nevents\nlog\nevents\nlog")
		if text != told {
			t.Fatalf("log: %s: %s, want %s", engine, short(text), short(told))
		}
		if !strings.HasSuffix(text, "events 0\nlog 0\n") || !strings.Contains(text, "\nNMI ") || !strings.Contains(text, "\nIRQ ") || !strings.Contains(text, "\nRESET 0000 00 FFFC @0\n") ||
			!strings.Contains(text, "\nW 2000 88 @16\n") || !strings.Contains(text, "\nW 4018 C8 @28\n") || !strings.Contains(text, "\nR 4016 ") || !strings.Contains(text, "\nW 2004 ") {
			t.Errorf("log: %s: %s", engine, short(text))
		}
		var n int
		if _, err := fmt.Sscanf(only(text, "log"), "log %d", &n); err != nil || strings.Count(text, "\nR ")+strings.Count(text, "\nW ") != n {
			t.Errorf("log: %s: %d told, %d lines", engine, n, strings.Count(text, "\nR ")+strings.Count(text, "\nW "))
		}
	}
}
