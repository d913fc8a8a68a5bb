package console_test

import (
	"bytes"
	"fmt"
	"strings"
	"testing"

	"tandem/api"
	"tandem/cart"
	"tandem/interp"
	"tandem/snap"
)

// 18.3: save, load: every slot empty and full, saved over; none touches another.
func TestSlots(t *testing.T) {
	for slot := range 10 {
		refuses(t, "an empty slot", cartL, fmt.Sprintf("run 7\nload %d\nregs", slot), "ran 7\n", api.ErrSlot, 2)
		others := ""
		for k := range 10 {
			if k != slot {
				others += fmt.Sprintf("save %d\n", k)
			}
		}
		head := done(t, "slots", cartL, others)
		refuses(t, "the one empty slot", cartL, others+fmt.Sprintf("load %d", slot), head, api.ErrSlot, 10)
		answers(t, "a full slot", cartL, fmt.Sprintf("save %d\nrun 7\nload %d\nregs\nload %d\nregs", slot, slot, slot),
			fmt.Sprintf("saved %d 6688\nran 7\nloaded %d\n%s\nloaded %d\n%s\n", slot, slot, newRegs, slot, newRegs))
		answers(t, "saved over", cartL, fmt.Sprintf("save %d\nrun 7\nsave %d\nrun 7\nload %d\nregs", slot, slot, slot),
			fmt.Sprintf("saved %d 6688\nran 7\nsaved %d 6688\nran 7\nloaded %d\n%s\n", slot, slot, slot, afterBoot))
	}
	// Ten states in ten slots.
	commands := ""
	for slot := range 10 {
		commands += fmt.Sprintf("run 3\nsave %d\nregs\n", slot)
	}
	states := strings.Split(only(done(t, "slots", cartL, commands), "pc="), "\n")[:10]
	want := strings.Join(states, "\n") + "\n"
	for _, slot := range []int{9, 0, 5, 5, 3, 8, 1, 7, 2, 6, 4} {
		commands += fmt.Sprintf("run 40\nload %d\nregs\n", slot)
		want += states[slot] + "\n"
	}
	if got := only(done(t, "slots", cartL, commands), "pc="); got != want {
		t.Errorf("18.3: ten slots hold %q, want %q", got, want)
	}
}

// 18.3: slots and tape stay behind engine, power, load and back.
func TestSlotsStay(t *testing.T) {
	for _, engine := range engines {
		text := done(t, "stay", cartL, "run 7\nsave 4\nmark\nrun 5\nmark\n"+engine+"\npower\nload 4\nregs\n"+engine+"\nback\nregs\npower\nback\nregs\nload 4\nregs")
		want := "loaded 4\n" + afterBoot + "\n" + engine + "\nback 1\npc=C002 a=00 x=04 y=00 s=FD p=24 take=0 jam=0 cycle=14\npower\nback 0\n" +
			afterBoot + "\nloaded 4\n" + afterBoot + "\n"
		if !strings.HasSuffix(text, want) {
			t.Errorf("18.3: %s: %q, want %q at its end", engine, text, want)
		}
	}
}

// 18.3: a tape with 15, 16 and 17 marks, and back till it is empty: it holds the last 16, and gives them back, newest first.
func TestTape(t *testing.T) {
	for _, engine := range engines {
		for _, marks := range []int{0, 1, 2, 15, 16, 17, 18, 40} {
			commands := engine + "\n" + strings.Repeat("run 3\nmark\nregs\n", marks)
			marked := done(t, "tape", cartL, commands)
			states := strings.Split(only(marked, "pc="), "\n")
			told := ""
			for i := range marks {
				told += fmt.Sprintf("marked %d\n", min(i+1, 16))
			}
			if got := only(marked, "marked"); got != told {
				t.Errorf("18.3: %s: %d marks answer %q, want %q", engine, marks, got, told)
			}
			held := min(marks, 16)
			commands += strings.Repeat("run 9\nback\nregs\n", held)
			back := done(t, "tape", cartL, commands)
			want := ""
			for i := range held {
				want += fmt.Sprintf("back %d\n%s\n", held-1-i, states[marks-1-i])
			}
			lines := strings.SplitAfter(strings.TrimPrefix(back, marked), "\n")
			got := ""
			for _, line := range lines {
				if !strings.HasPrefix(line, "ran") {
					got += line
				}
			}
			if got != want {
				t.Errorf("18.3: %s: back on a tape with %d marks: %q, want %q", engine, marks, got, want)
			}
			refuses(t, "the tape is empty", cartL, commands+"back\nregs", back, api.ErrEmpty, strings.Count(commands, "\n")+1)
			answers(t, "and takes marks again", cartL, commands+"mark\nback\n", back+"marked 1\nback 0\n")
		}
	}
}

// 18.3: a mark on a full tape pushes the oldest out, behind backs too.
func TestTapeGoesOn(t *testing.T) {
	commands := strings.Repeat("run 3\nmark\n", 16) + strings.Repeat("back\n", 5) + strings.Repeat("run 4\nmark\n", 7) + strings.Repeat("back\nregs\n", 16)
	told, e, _ := toldPlay(cartL, commands)
	if e != api.OK || strings.Count(told, "marked 16\n") != 4 || !strings.Contains(told, "back 0\n") {
		t.Fatalf("the second form is wrong: %s", short(told))
	}
	answers(t, "the tape", cartL, commands, told)
}

// 18.3: the snapshot is snap.Save of the machine's state with cart.Sum of the cartridge: its length, and its cart.Crc.
func TestSnapshot(t *testing.T) {
	for name, image := range map[string][]byte{"L": cartL, "busy": built(t, busy)} {
		c := partOf(t, image)
		m, _ := interp.New(c)
		for _, n := range []uint32{0, 7, 100, 3000, 40000} {
			m.Play(api.Turn{Budget: n})
			data, _ := snap.Save(cart.Sum(c), m.State())
			want := fmt.Sprintf("sum %08X\nsaved 3 %d\n", cart.Crc(data), len(data))
			for _, engine := range engines {
				commands := engine + "\n"
				for _, k := range []uint32{0, 7, 100, 3000, 40000} {
					if commands += fmt.Sprintf("run %d\n", k); k == n {
						break
					}
				}
				if text := done(t, "sum", image, commands+"sum\nsave 3"); !strings.HasSuffix(text, "\n"+want) {
					t.Errorf("18.3: %s, %s: %s, want %q at its end", name, engine, short(text), want)
				}
			}
			if name == "busy" && n == 40000 && len(data) != 6688+8204*2 {
				t.Errorf("the test asks too little: a snapshot of %d bytes", len(data))
			}
		}
	}
	// The sum of a machine without CHR-RAM and work RAM, as the chapter of snapshots has it: all with the same chunks have this one.
	answers(t, "sum", cartL, "sum", "sum 1B9549F4\n")
}

// 18.3: the sum is told with eight digits, and tells snapshots with other chunks apart.
func TestSumOfChunks(t *testing.T) {
	image := built(t, "start: lda #1\n sta $6000\n lda #0\n sta $2006\n sta $2006\n lda #5\n sta $2007\n@on: jmp @on\nnmi:\nirq: rti\n")
	text := done(t, "sum", image, "sum\nsave 0\nrun 13\nsum\nsave 1\nrun 20\nsum\nsave 2\nload 0\nsum")
	l := strings.Split(only(text, "sum"), "\n")
	if l[0] == l[1] || l[1] == l[2] || l[0] == l[2] || l[3] != l[0] || len(l[0]) != 12 || only(text, "saved") != "saved 0 6688\nsaved 1 14892\nsaved 2 23096\n" {
		t.Errorf("18.3: sums of other chunks: %q, %q", l, only(text, "saved"))
	}
}

// P18.4: load of what was saved, and back to what was marked, make sum and regs what they were, and the machine goes the same way once more: on each engine, and on others.
func TestBackIsBack(t *testing.T) {
	image := built(t, busy)
	const look = "regs\nsum\npeek $10 4\npeek $300 64\npeek $6100 64\npeek $2000 8\npeek $4015 8\nsave 9\n"
	const way = "run 500\nregs\npads 1 2\nrun 31000\nregs\ntrace 20\n" + look
	for i, engine := range engines {
		other := engines[(i+1)%len(engines)]
		text := done(t, "back", image, engine+"\nrun 29000\nsave 0\nmark\n"+look+way+"load 0\n"+look+way+"power\nback\n"+look+way+other+"\nload 0\n"+look+way)
		_, text, _ = strings.Cut(text, "\nmarked 1\n")
		parts := strings.Split(strings.NewReplacer("power\nback 0\n", "loaded 0\n", other+"\n", "").Replace(text), "loaded 0\n")
		for k, p := range parts {
			if p != parts[0] {
				t.Errorf("P18.4: %s: the way back %d is %s, want %s", engine, k, short(p), short(parts[0]))
			}
		}
		if len(parts) != 4 || strings.Count(parts[0], "saved 9 ") != 2 || strings.Count(parts[0], "pc=") != 4 {
			t.Fatalf("%s: the test asks too little: %d parts, %s", engine, len(parts), short(parts[0]))
		}
	}
}

// 18.3: power: cycle 0 and a new machine's state; work RAM stays with a battery alone; on each engine.
func TestPower(t *testing.T) {
	image := built(t, "start: lda #7\n sta $6000\n sta $7fff\n sta $10\n sta $2000\n sta $2003\n lda #$21\n sta $2006\n sta $2006\n sta $2007\n jmp start\nnmi:\nirq: rti\n")
	const look = "regs\npeek $6000 2\npeek $7fff 1\npeek $10 1\npeek $2000 8\npeek $4000 28\nsave 0\n"
	fresh := done(t, "power", image, look)
	for _, engine := range engines {
		commands := engine + "\nrun 60\npads 1 2\n" + look + "power\n" + look
		text := done(t, "power", image, commands)
		if got := text[strings.Index(text, "power\n")+6:]; got != fresh {
			t.Errorf("18.3: power, %s, no battery: %q, want %q", engine, got, fresh)
		}
		text = done(t, "power", batteried(image), commands)
		want := strings.NewReplacer("6000: 00", "6000: 07", "7FFF: 00", "7FFF: 07", "saved 0 6688", "saved 0 14892").Replace(fresh)
		if got := text[strings.Index(text, "power\n")+6:]; got != want {
			t.Errorf("18.3: power, %s, a battery: %q, want %q", engine, got, want)
		}
		if !strings.Contains(text, "7FFF: 07\n0010: 07\n") {
			t.Fatalf("the test asks too little: %q", text)
		}
		// It goes on from cycle 0 like a new one.
		if a, b := done(t, "power", image, engine+"\nrun 7\npower\nevents\nrun 100\nregs\nevents\nlog"), done(t, "power", image, engine+"\nrun 100\nregs\nevents\nlog"); !strings.HasSuffix(a, strings.TrimPrefix(b, engine+"\n")) {
			t.Errorf("18.3: power, %s: %q, want %q at its end", engine, a, b)
		}
	}
}

// 18.3: with a trainer: power lays it down anew, but where work RAM stays.
func TestPowerTrainer(t *testing.T) {
	plain := built(t, "start: lda #7\n sta $7000\n@on: jmp @on\nnmi:\nirq: rti\n")
	image := append(append([]byte{}, plain[:16]...), bytes.Repeat([]byte{0xaa}, 512)...)
	image = append(image, plain[16:]...)
	image[6] |= 4
	for _, engine := range engines {
		answers(t, engine, image, engine+"\npeek $7000 2\npeek $71ff 2\nrun 20\npeek $7000 2\npower\npeek $7000 2\n",
			engine+"\n7000: AA AA\n71FF: AA 00\nran 22\n7000: 07 AA\npower\n7000: AA AA\n")
		answers(t, engine, batteried(image), engine+"\npeek $7000 2\npower\npeek $7000 2\nrun 20\npeek $7000 2\npower\npeek $7000 2\n",
			engine+"\n7000: AA AA\npower\n7000: AA AA\nran 22\n7000: 07 AA\npower\n7000: 07 AA\n")
	}
}
