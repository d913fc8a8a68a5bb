package console_test

import (
	"fmt"
	"runtime"
	"strings"
	"sync"
	"testing"
	"time"

	"tandem/api"
	"tandem/console"
)

// alone is what Batch must answer for a play: what Play answers it alone, with the fault as its last line.
func alone(image []byte, play string) string {
	text, e, line := console.Play(image, play)
	if e != api.OK {
		text += fmt.Sprintf("fault %d at %d\n", e, line)
	}
	return text
}

// batchIs asks for a batch's answers.
func batchIs(t *testing.T, what string, image []byte, plays []string, workers int, want []string) {
	t.Helper()
	got, e := console.Batch(image, plays, workers)
	if e != api.OK || len(got) != len(want) {
		t.Fatalf("P18.3: %s, %d workers: %d answers, error %d; want %d", what, workers, len(got), e, len(want))
	}
	for i := range want {
		if got[i] != want[i] {
			t.Errorf("P18.3: %s, %d workers: play %d answers %s, want %s", what, workers, i, short(got[i]), short(want[i]))
		}
	}
}

// somePlays is plays of all kinds: short and long ones, done and refused ones.
func somePlays(n int) []string {
	plays := []string{}
	for i := range n {
		engine := engines[i%len(engines)]
		switch i % 7 {
		case 0:
			plays = append(plays, fmt.Sprintf("%s\nrun %d\nregs\nsum\n", engine, 100*i))
		case 1:
			plays = append(plays, fmt.Sprintf("jump %d", i))
		case 2:
			plays = append(plays, "")
		case 3:
			plays = append(plays, fmt.Sprintf("%s\nmark\nrun %d\nlog\nevents\nback\nregs\nback\n", engine, 3*i+1))
		case 4:
			plays = append(plays, fmt.Sprintf("warm $c000 $c010\nrun 500\nstats\nsave %d\nload %d\nload %d", i%10, i%10, (i+1)%10))
		case 5:
			plays = append(plays, fmt.Sprintf("\n# play %d\nscript 2\nscript 1\n|0|%d|........|........| x3\nregs\nscript 1\nx\n", i, i))
		case 6:
			plays = append(plays, fmt.Sprintf("pads %d 1\ntrace 30\npower\nregs", i))
		}
	}
	return plays
}

// P18.3, P20: whatever the number of workers, each play is answered as it is alone.
func TestBatch(t *testing.T) {
	image := built(t, busy)
	for _, n := range []int{0, 1, 2, 15, 64} {
		plays := somePlays(n)
		want := []string{}
		for _, play := range plays {
			want = append(want, alone(image, play))
		}
		for workers := 1; workers <= 16; workers++ {
			if n < 64 || workers%5 == 1 || workers == 15 {
				batchIs(t, fmt.Sprintf("%d plays", n), image, plays, workers, want)
			}
		}
	}
}

// P18.3: the line of a fault, by hand.
func TestBatchFaults(t *testing.T) {
	plays := []string{"", "jump", "run 7\nregs", "run 7\nback", "script 2\nscript 1\nx", "script 1\n", strings.Repeat("\n", 65537), "\n\nengine dbt 0 0\n", "run 7\nrun", "load 0"}
	want := []string{"", "fault 180 at 1\n", "ran 7\n" + afterBoot + "\n", "ran 7\nfault 171 at 2\n", "fault 91 at 3\n", "fault 181 at 1\n", "fault 1 at 0\n", "fault 140 at 3\n", "ran 7\nfault 181 at 2\n", "fault 182 at 1\n"}
	for _, workers := range []int{1, 2, 3, 10, 16} {
		batchIs(t, "faults", cartL, plays, workers, want)
	}
	batchIs(t, "no image", nil, []string{"regs", "", strings.Repeat("\n", 65537)}, 2, []string{"fault 183 at 0\n", "fault 183 at 0\n", "fault 1 at 0\n"})
	batchIs(t, "no image, no play", nil, nil, 1, nil)
}

// P18.3: numbers of workers and plays that are refused; and those that just are not.
func TestBatchRefused(t *testing.T) {
	for _, x := range []struct{ n, workers int }{
		{1, 0}, {1, -1}, {1, 17}, {1, 1 << 40}, {1, -1 << 63}, {0, 0}, {0, 17}, {0, -5}, {65, 1}, {65, 16}, {65, 0}, {65, 17}, {100000, 3},
	} {
		for _, image := range [][]byte{cartL, nil} {
			if got, e := console.Batch(image, make([]string, x.n), x.workers); len(got) != 0 || e != api.ErrArg {
				t.Errorf("P18.3: Batch of %d plays by %d workers: %d answers, error %d", x.n, x.workers, len(got), e)
			}
		}
	}
	for _, x := range []struct{ n, workers int }{{0, 1}, {0, 16}, {1, 16}, {64, 1}, {64, 16}} {
		batchIs(t, "bounds", cartL, make([]string, x.n), x.workers, make([]string, x.n))
	}
}

// P20: batches beside each other, and the same plays in any order.
func TestBatchesSideBySide(t *testing.T) {
	image := built(t, busy)
	plays := somePlays(21)
	want := []string{}
	for _, play := range plays {
		want = append(want, alone(image, play))
	}
	var all sync.WaitGroup
	for k := range 6 {
		all.Go(func() {
			turned, turnedWant := []string{}, []string{}
			for i := range plays {
				j := (i*5 + k) % len(plays)
				turned, turnedWant = append(turned, plays[j]), append(turnedWant, want[j])
			}
			got, e := console.Batch(image, turned, k+1)
			if e != api.OK || strings.Join(got, "/") != strings.Join(turnedWant, "/") {
				t.Errorf("P20: batch %d beside others: another answer, error %d", k, e)
			}
		})
	}
	all.Wait()
}

// 18.6: all workers have ended when Batch answers.
func TestBatchEnds(t *testing.T) {
	before := runtime.NumGoroutine()
	for workers := 1; workers <= 16; workers++ {
		for _, n := range []int{0, 1, 16, 40} {
			console.Batch(cartL, somePlays(n), workers)
			for range 10000 { // one that has done its last work may still be counted for a moment
				if runtime.NumGoroutine() <= before {
					break
				}
				time.Sleep(time.Millisecond)
			}
			if now := runtime.NumGoroutine(); now > before {
				t.Fatalf("18.6: %d plays by %d workers: %d goroutines are left", n, workers, now-before)
			}
		}
	}
}
