package console_test

import (
	"fmt"
	"strings"
	"testing"

	"tandem/api"
)

// rows is the chapter's table: a line of each command that is done on a new machine, as the test has it stand; {} is an argument with its bounds.
var rows = []struct {
	line        string
	least, most []int
}{
	{"run", []int{0}, []int{4294967295}},
	{"pads", []int{0, 0}, []int{255, 255}},
	{"reset", nil, nil},
	{"power", nil, nil},
	{"flush", nil, nil},
	{"engine step", nil, nil},
	{"engine interp", nil, nil},
	{"engine dbt", []int{1, 1}, []int{65536, 64}},
	{"regs", nil, nil},
	{"peek", []int{0, 1}, []int{65535, 64}},
	{"trace", []int{1}, []int{256}},
	{"list", []int{0, 1}, []int{65535, 32}},
	{"log", nil, nil},
	{"events", nil, nil},
	{"stats", nil, nil},
	{"sum", nil, nil},
	{"save", []int{0}, []int{9}},
	{"load", []int{0}, []int{9}},
	{"mark", nil, nil},
	{"back", nil, nil},
	{"warm", []int{0}, []int{65535}},
}

// ready fills all slots and puts something on the tape, so that load and back are done.
var ready = "save 0\nsave 1\nsave 2\nsave 3\nsave 4\nsave 5\nsave 6\nsave 7\nsave 8\nsave 9\nmark\n"

// isDone asks that a line is done, by all engines; runs of billions of cycles are left out, as they take too long.
func isDone(t *testing.T, line string) {
	t.Helper()
	text := done(t, "18.3", cartL, ready+line+"\n")
	head := done(t, "18.3", cartL, ready)
	if !strings.HasPrefix(text, head) || len(text) == len(head) {
		t.Errorf("18.3: %q answers %s", line, short(text))
	}
}

// isRefused asks for a line's error; nothing is answered, and nothing is done.
func isRefused(t *testing.T, line string, e api.Errno) {
	t.Helper()
	head := done(t, "18.3", cartL, ready)
	refuses(t, "18.3", cartL, ready+line+"\n", head, e, 12)
	refuses(t, "18.3", cartL, ready+line+" \nregs\nregs\n", head, e, 12)
}

// with is a command with these arguments.
func with(command string, args ...int) string {
	for _, a := range args {
		command += fmt.Sprintf(" %d", a)
	}
	return command
}

// 18.3: each argument at its bounds and one beyond; one argument too few and too many.
func TestArguments(t *testing.T) {
	for _, r := range rows {
		if r.line != "run" {
			isDone(t, with(r.line, r.least...))
			isDone(t, with(r.line, r.most...))
		}
		for i := range r.least {
			args := append([]int{}, r.least...)
			beyond := api.ErrNumber
			if r.line == "engine dbt" {
				beyond = []api.Errno{api.ErrSize, api.ErrLimit}[i]
			}
			args[i] = r.most[i] + 1
			isRefused(t, with(r.line, args...), beyond)
			args[i] = r.most[i]
			if r.line != "run" {
				isDone(t, with(r.line, args...))
			}
			if r.least[i] > 0 {
				args[i] = r.least[i] - 1
				isRefused(t, with(r.line, args...), beyond)
			}
		}
		if n := len(r.least); n > 0 {
			isRefused(t, with(r.line, r.least[:n-1]...), api.ErrNumber)
			isRefused(t, r.line, api.ErrNumber)
		}
		if r.line != "warm" {
			isRefused(t, with(r.line, append(append([]int{}, r.least...), 1)...), api.ErrNumber)
		}
		isRefused(t, with(r.line, r.least...)+" x", api.ErrNumber)
		isRefused(t, strings.ReplaceAll(with(r.line, r.least...)+" x", " ", "\t"), api.ErrWord)
	}
}

// 18.3: run takes any number: the greatest that end soon, and one that is none.
func TestRunTakesAnyNumber(t *testing.T) {
	for n, want := range map[string]string{"0": "0", "1": "7", "7": "7", "8": "9", "100000": "100001", "$7": "7", "0000000007": "7"} {
		answers(t, "run "+n, cartL, "run "+n, "ran "+want+"\n")
	}
	refuses(t, "run", cartL, "run 4294967296", "", api.ErrNumber, 1)
	refuses(t, "run", cartL, "run $100000000", "", api.ErrNumber, 1)
}

// 18.3: warm takes 1 to 16 addresses.
func TestWarmArguments(t *testing.T) {
	for n := 1; n <= 16; n++ {
		isDone(t, "warm"+strings.Repeat(" 49152", n))
	}
	isRefused(t, "warm", api.ErrNumber)
	isRefused(t, "warm"+strings.Repeat(" 49152", 17), api.ErrNumber)
	isRefused(t, "warm"+strings.Repeat(" 49152", 15)+" 65536", api.ErrNumber)
	isRefused(t, "warm 65536"+strings.Repeat(" 49152", 15), api.ErrNumber)
	isRefused(t, "warm 1 2 65536 3", api.ErrNumber)
}

// 18.3: engine's words.
func TestEngineWords(t *testing.T) {
	for _, line := range []string{
		"engine", "engine slow", "engine Step", "engine INTERP", "engine Dbt 1 1", "engine dbt", "engine dbt 1", "engine dbt 1 1 1", "engine step 1",
		"engine step step", "engine interp interp", "engine interp 64 16", "engine stepper", "engine dbt 1 x", "engine dbt x 1", "engine dbt step 1",
		"engine 1", "engine 1 1", "engine dbt 0 4294967296", "engine dbt 4294967296 0", "engine step\t", "engine dbt\t1 1", "engine #", "engine engine",
	} {
		isRefused(t, line, api.ErrNumber)
	}
	for line, e := range map[string]api.Errno{
		"engine dbt 0 0": api.ErrSize, "engine dbt 0 1": api.ErrSize, "engine dbt 65537 0": api.ErrSize, "engine dbt 65537 64": api.ErrSize, "engine dbt 4294967295 16": api.ErrSize,
		"engine dbt 1 0": api.ErrLimit, "engine dbt 65536 65": api.ErrLimit, "engine dbt 64 4294967295": api.ErrLimit, "engine dbt $40 $41": api.ErrLimit,
	} {
		isRefused(t, line, e)
	}
	answers(t, "engine", cartL, "engine step", "engine step\n")
	answers(t, "engine", cartL, "engine interp", "engine interp\n")
	answers(t, "engine", cartL, "engine dbt $40 $10", "engine dbt 64 16\n")
	answers(t, "engine", cartL, " engine   dbt  0065536   064", "engine dbt 65536 64\n")
	answers(t, "engine", cartL, "engine dbt 1 1", "engine dbt 1 1\n")
}

// P18.1: ErrWord goes ahead of ErrNumber, and that ahead of the command's own.
func TestOrderOfErrors(t *testing.T) {
	refuses(t, "order", cartL, "jump x", "", api.ErrWord, 1)
	refuses(t, "order", cartL, "load 10", "", api.ErrNumber, 1)
	refuses(t, "order", cartL, "load 3 3", "", api.ErrNumber, 1)
	refuses(t, "order", cartL, "back 1", "", api.ErrNumber, 1)
	refuses(t, "order", cartL, "engine dbt 0 x", "", api.ErrNumber, 1)
	refuses(t, "order", cartL, "script 1 1\nno script", "", api.ErrNumber, 1)
	refuses(t, "order", cartL, "script 2\nno script", "", api.ErrNumber, 1)
	refuses(t, "order", cartL, "script 4097\nno script", "", api.ErrNumber, 1)
	refuses(t, "order", cartL, "script x\nno script", "", api.ErrNumber, 1)
	refuses(t, "order", cartL, "jump\nrun x\nload 1", "", api.ErrWord, 1)
	refuses(t, "order", cartL, "load 1\njump", "", api.ErrSlot, 1)
}
