package console_test

import (
	"errors"
	"fmt"
	"regexp"
	"strconv"
	"strings"

	"tandem/api"
	"tandem/bus"
	"tandem/cart"
	"tandem/dbt"
	"tandem/isa"
	"tandem/mapper"
	"tandem/pads"
	"tandem/snap"
	"tandem/stepper"
)

// The chapter's words in a second form: the machine is always a stepper; where the engine is the translator, one goes beside it, for its cache and counters.

// teller plays commands as the chapter tells it.
type teller struct {
	cart     api.Cart
	machine  *stepper.Machine
	beside   *dbt.Machine // nil: another engine
	size     int
	limit    int
	saved    map[int][]byte
	tape     [][]byte
	accesses []api.Access
	events   []api.Event
	lines    []string
	next     int // of lines
	out      string
	fault    int // a line that the fault lies in, if it isn't the command's own
}

// refusal is a line's error.
type refusal api.Errno

func (r refusal) Error() string { return fmt.Sprint(int(r)) }

var (
	toldWord   = regexp.MustCompile(`[^ ]+`)
	toldNumber = regexp.MustCompile(`^(?:([0-9]{1,10})|\$([0-9a-fA-F]{1,8}))$`)
)

// toldPlay is Play.
func toldPlay(image []byte, commands string) (string, api.Errno, int) {
	if len(commands) > 65536 {
		return "", api.ErrLong, 0
	}
	c, e, _ := cart.Parse(image)
	if _, e2 := mapper.New(c); e != api.OK || e2 != api.OK {
		return "", api.ErrImage, 0
	}
	w := &teller{cart: c, size: 64, limit: 16, saved: map[int][]byte{}}
	w.machine, _ = stepper.New(c)
	w.beside, _ = dbt.New(c, 64, 16)
	w.lines = strings.Split(commands, "\n")
	if w.lines[len(w.lines)-1] == "" {
		w.lines = w.lines[:len(w.lines)-1]
	}
	for w.next < len(w.lines) {
		words := toldWord.FindAllString(w.lines[w.next], -1)
		w.next++
		if len(words) == 0 || words[0][0] == '#' {
			continue
		}
		own := w.next
		if err := w.line(words[0], words[1:]); err != nil {
			var r refusal
			errors.As(err, &r)
			if w.fault > 0 {
				own = w.fault
			}
			return w.out, api.Errno(r), own
		}
	}
	return w.out, api.OK, 0
}

// toldCommand is a row of the chapter's table: how many arguments, and what each may be.
type toldCommand struct {
	least, most int
	lows, highs []int
	do          func(w *teller, a []int) error
}

const toldMost = 4294967295

func toldTable() map[string]toldCommand {
	none := func(do func(w *teller, a []int) error) toldCommand { return toldCommand{do: do} }
	one := func(low, high int, do func(w *teller, a []int) error) toldCommand {
		return toldCommand{1, 1, []int{low}, []int{high}, do}
	}
	two := func(low, high, low2, high2 int, do func(w *teller, a []int) error) toldCommand {
		return toldCommand{2, 2, []int{low, low2}, []int{high, high2}, do}
	}
	warm := toldCommand{1, 16, make([]int, 16), make([]int, 16), (*teller).warm}
	for i := range warm.highs {
		warm.highs[i] = 65535
	}
	return map[string]toldCommand{
		"run": one(0, toldMost, (*teller).run), "pads": two(0, 255, 0, 255, (*teller).pads), "reset": none((*teller).reset),
		"power": none((*teller).power), "flush": none((*teller).flush), "regs": none((*teller).regs),
		"peek": two(0, 65535, 1, 64, (*teller).peek), "trace": one(1, 256, (*teller).trace), "list": two(0, 65535, 1, 32, (*teller).list),
		"log": none((*teller).log), "events": none((*teller).tellEvents), "stats": none((*teller).stats), "sum": none((*teller).sum),
		"save": one(0, 9, (*teller).save), "load": one(0, 9, (*teller).load), "mark": none((*teller).mark), "back": none((*teller).back),
		"warm": warm, "script": one(0, 4096, (*teller).script),
		"engine step":   none(func(w *teller, a []int) error { return w.engine("step", 0, 0) }),
		"engine interp": none(func(w *teller, a []int) error { return w.engine("interp", 0, 0) }),
		"engine dbt":    two(0, toldMost, 0, toldMost, func(w *teller, a []int) error { return w.engine("dbt", a[0], a[1]) }),
	}
}

func (w *teller) line(word string, rest []string) error {
	if word == "engine" {
		if len(rest) == 0 {
			return refusal(api.ErrNumber)
		}
		word, rest = "engine "+rest[0], rest[1:]
	}
	c, ok := toldTable()[word]
	switch {
	case !ok && strings.HasPrefix(word, "engine "):
		return refusal(api.ErrNumber)
	case !ok:
		return refusal(api.ErrWord)
	case len(rest) < c.least || len(rest) > c.most:
		return refusal(api.ErrNumber)
	}
	args := []int{}
	for i, x := range rest {
		m := toldNumber.FindStringSubmatch(x)
		if m == nil {
			return refusal(api.ErrNumber)
		}
		n, _ := strconv.ParseInt(m[1], 10, 64)
		if m[1] == "" {
			n, _ = strconv.ParseInt(m[2], 16, 64)
		}
		if int(n) < c.lows[i] || int(n) > c.highs[i] {
			return refusal(api.ErrNumber)
		}
		args = append(args, int(n))
	}
	return c.do(w, args)
}

func (w *teller) say(form string, a ...any) { w.out += fmt.Sprintf(form+"\n", a...) }

func (w *teller) state() api.State {
	s, ok := w.machine.State()
	if !ok {
		panic("not at a boundary")
	}
	return s
}

func (w *teller) play(t api.Turn) (int, error) {
	if w.state().Mem.Cycle+int(t.Budget) > api.MaxCycle {
		return 0, refusal(api.ErrArg)
	}
	n, _ := w.machine.Play(t)
	if w.beside != nil {
		if m, _ := w.beside.Play(t); m != n || w.beside.State() != w.state() {
			panic("the translator is not the stepper")
		}
	}
	return n, nil
}

func (w *teller) turn(budget int) (int, error) {
	s := w.state()
	return w.play(api.Turn{Budget: uint32(budget), One: s.Mem.Pads.Held[0], Two: s.Mem.Pads.Held[1]})
}

func (w *teller) run(a []int) error {
	n, err := w.turn(a[0])
	if err == nil {
		w.say("ran %d", n)
	}
	return err
}

func (w *teller) pads(a []int) error {
	w.machine.Press(uint8(a[0]), uint8(a[1]))
	if w.beside != nil {
		w.beside.Press(uint8(a[0]), uint8(a[1]))
	}
	w.say("pads %02X %02X", a[0], a[1])
	return nil
}

func (w *teller) reset([]int) error {
	w.machine.Reset()
	if w.beside != nil {
		w.beside.Reset()
	}
	w.say("reset")
	return nil
}

// goOn is a machine that goes on from s, on the engine that there is.
func (w *teller) goOn(s api.State) {
	w.gather()
	w.machine, _ = stepper.From(w.cart, s)
	if w.beside != nil {
		w.beside, _ = dbt.From(w.cart, s, w.size, w.limit)
	}
}

func (w *teller) gather() {
	w.accesses = append(w.accesses, w.machine.Log()...)
	w.events = append(w.events, w.machine.Events()...)
}

func (w *teller) power([]int) error {
	n, _ := stepper.New(w.cart)
	s, _ := n.State()
	if w.cart.Battery {
		s.Mem.Work = w.state().Mem.Work
	}
	w.goOn(s)
	w.say("power")
	return nil
}

func (w *teller) flush([]int) error {
	n := 0
	if w.beside != nil {
		n = len(w.beside.Keys())
		w.beside.Flush()
	}
	w.say("flushed %d", n)
	return nil
}

func (w *teller) engine(word string, size, limit int) error {
	s := w.state()
	switch {
	case word == "dbt" && (size < 1 || size > 65536):
		return refusal(api.ErrSize)
	case word == "dbt" && (limit < 1 || limit > 64):
		return refusal(api.ErrLimit)
	case word == "dbt":
		w.size, w.limit, w.beside = size, limit, &dbt.Machine{}
		w.say("engine dbt %d %d", size, limit)
	default:
		w.beside = nil
		w.say("engine %s", word)
	}
	w.goOn(s)
	return nil
}

// register is regs without its first part.
func (w *teller) register() string {
	s := w.state()
	r, jam := s.Cpu.Regs, 0
	if s.Cpu.Jam {
		jam = 1
	}
	return fmt.Sprintf("a=%02X x=%02X y=%02X s=%02X p=%02X take=%d jam=%d cycle=%d", r.A, r.X, r.Y, r.S, r.P, s.Cpu.Take, jam, s.Mem.Cycle)
}

func (w *teller) regs([]int) error {
	w.say("pc=%04X %s", w.state().Cpu.Regs.PC, w.register())
	return nil
}

// seen is bytes as the bus shows them.
func (w *teller) seen(addr, n int) []byte {
	b, _ := bus.From(w.cart, w.machine.Mem())
	l := []byte{}
	for i := range n {
		l = append(l, b.Peek(uint16((addr+i)%65536)))
	}
	return l
}

func (w *teller) peek(a []int) error {
	w.say("%04X: % X", a[0], w.seen(a[0], a[1]))
	return nil
}

func (w *teller) trace(a []int) error {
	for range a[0] {
		pc := w.state().Cpu.Regs.PC
		text, _ := isa.Line(w.seen(int(pc), 3), pc)
		line := fmt.Sprintf("%04X: %s | %s", pc, text, w.register())
		if _, err := w.turn(1); err != nil {
			return err
		}
		w.say("%s", line)
	}
	return nil
}

func (w *teller) list(a []int) error {
	at := a[0]
	for range a[1] {
		code := w.seen(at, 3)
		text, _ := isa.Line(code, uint16(at))
		w.say("%04X: %s", at, text)
		at = (at + isa.Decode(code[0]).Len) % 65536
	}
	return nil
}

func (w *teller) log([]int) error {
	w.gather()
	w.say("log %d", len(w.accesses))
	for _, x := range w.accesses {
		w.say("%c %04X %02X @%d", map[bool]byte{false: 'R', true: 'W'}[x.Write], x.Addr, x.Val, x.Cycle)
	}
	w.accesses = nil
	return nil
}

func (w *teller) tellEvents([]int) error {
	w.gather()
	w.say("events %d", len(w.events))
	for _, x := range w.events {
		w.say("%s %04X %02X %04X @%d", [...]string{"BRK", "IRQ", "NMI", "RESET"}[x.Kind], x.PC, x.P, x.Vector, x.Cycle)
	}
	w.events = nil
	return nil
}

func (w *teller) stats([]int) error {
	if w.beside == nil {
		w.say("stats none")
		return nil
	}
	s := w.beside.Stats()
	w.say("stats steps=%d blocks=%d hits=%d misses=%d evicted=%d dropped=%d guards=%d stores=%d flushes=%d cached=%d",
		s.Steps, s.Blocks, s.Hits, s.Misses, s.Evicted, s.Dropped, s.Guards, s.Stores, s.Flushes, len(w.beside.Keys()))
	return nil
}

func (w *teller) shot() []byte {
	data, _ := snap.Save(cart.Sum(w.cart), w.state())
	return data
}

func (w *teller) sum([]int) error {
	w.say("sum %08X", cart.Crc(w.shot()))
	return nil
}

func (w *teller) save(a []int) error {
	w.saved[a[0]] = w.shot()
	w.say("saved %d %d", a[0], len(w.saved[a[0]]))
	return nil
}

func (w *teller) goBack(data []byte) {
	s, e, _ := snap.Load(cart.Sum(w.cart), data)
	if e != api.OK {
		panic("a snapshot of the machine's own is refused")
	}
	w.goOn(s)
}

func (w *teller) load(a []int) error {
	data, ok := w.saved[a[0]]
	if !ok {
		return refusal(api.ErrSlot)
	}
	w.goBack(data)
	w.say("loaded %d", a[0])
	return nil
}

func (w *teller) mark([]int) error {
	w.tape = append(w.tape, w.shot())
	if len(w.tape) > 16 {
		w.tape = w.tape[1:]
	}
	w.say("marked %d", len(w.tape))
	return nil
}

func (w *teller) back([]int) error {
	n := len(w.tape) - 1
	if n < 0 {
		return refusal(api.ErrEmpty)
	}
	w.goBack(w.tape[n])
	w.tape = w.tape[:n]
	w.say("back %d", n)
	return nil
}

func (w *teller) warm(a []int) error {
	n := 0
	if w.beside != nil {
		pcs := []uint16{}
		for _, pc := range a {
			pcs = append(pcs, uint16(pc))
		}
		n, _ = w.beside.Warm(pcs, 1)
	}
	w.say("warmed %d", n)
	return nil
}

func (w *teller) script(a []int) error {
	own := w.next
	if own+a[0] > len(w.lines) {
		return refusal(api.ErrNumber)
	}
	text := ""
	for _, x := range w.lines[own : own+a[0]] {
		text += x + "\n"
	}
	turns, e, line := pads.Parse(text)
	if e != api.OK {
		w.fault = own + line
		return refusal(e)
	}
	sum := 0
	for _, t := range turns {
		n, err := w.play(t)
		if err != nil {
			return err
		}
		sum += n
	}
	w.next += a[0]
	w.say("played %d %d", len(turns), sum)
	return nil
}
