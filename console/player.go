package console

import (
	"strings"

	"tandem/api"
	"tandem/cart"
	"tandem/dbt"
	"tandem/rewind"
)

// What a player begins with.
const (
	firstSize  = 64 // slots of the translator's cache
	firstLimit = 16 // instructions of its blocks
	slots      = 10 // for snapshots
	tapeRoom   = 16 // snapshots of the tape
)

// player plays commands on a machine.
type player struct {
	cart    api.Cart
	cartSum uint32
	engine  engine
	now     api.State // what state answers: too much to be made anew each time
	slots   [slots][]byte
	tape    *rewind.Tape
	untold  history
	lines   []string
	at      int // the number of the line that is played
	text    strings.Builder
}

// history is what machines that are gone have not told.
type history struct {
	accesses []api.Access
	events   []api.Event
}

// newPlayer is a player with a new machine of an image's cartridge; false if that is refused.
func newPlayer(image []byte) (*player, bool) {
	c, e, _ := cart.Parse(image)
	if e != api.OK {
		return nil, false
	}
	m, e := dbt.New(c, firstSize, firstLimit)
	if e != api.OK {
		return nil, false
	}
	tape, _ := rewind.NewTape(tapeRoom)
	return &player{cart: c, cartSum: cart.Sum(c), engine: byBlocks{m, firstSize, firstLimit}, tape: tape}, true
}

// play plays lines, up to the first that can't be done: OK and 0, or its error and its number.
func (p *player) play(lines []string) (api.Errno, int) {
	p.lines = lines
	for p.at < len(lines) {
		words := wordsOf(lines[p.at])
		p.at++
		if len(words) == 0 || strings.HasPrefix(words[0], remark) {
			continue
		}
		if e := p.do(words); e != api.OK {
			return e, p.at
		}
	}
	return api.OK, 0
}

// do does what a line's words ask for.
func (p *player) do(words []string) api.Errno {
	c, rest, e := find(words)
	if e != api.OK {
		return e
	}
	args, ok := c.read(rest)
	if !ok {
		return api.ErrNumber
	}
	return c.do(p, args)
}

// tell answers a line of words.
func (p *player) tell(words ...string) {
	for i, word := range words {
		if i > 0 {
			p.text.WriteByte(' ')
		}
		p.text.WriteString(word)
	}
	p.text.WriteByte('\n')
}

// state is the machine as it stands, up to the next time that it is asked for.
func (p *player) state() *api.State {
	p.engine.state(&p.now)
	return &p.now
}

// replace puts another machine in the machine's place, if it could be made.
func (p *player) replace(next engine, e api.Errno) api.Errno {
	if e != api.OK {
		return e
	}
	p.collect()
	p.engine = next
	return api.OK
}

// collect puts what the machine has not told behind what those ahead of it have not.
func (p *player) collect() {
	p.untold.accesses = append(p.untold.accesses, p.engine.Log()...)
	p.untold.events = append(p.untold.events, p.engine.Events()...)
}
