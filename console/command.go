package console

import (
	"math"

	"tandem/api"
)

// engineWord is the command whose first argument is a word.
const engineWord = "engine"

// bounds is what a number may be.
type bounds struct{ least, most int }

// What several commands take.
var (
	anyNumber = bounds{0, math.MaxUint32}
	anyByte   = bounds{0, math.MaxUint8}
	anyPlace  = bounds{0, math.MaxUint16}
	anySlot   = bounds{0, slots - 1}
)

// command is a row of the table of commands.
type command struct {
	do   func(p *player, args []int) api.Errno
	args []bounds
	more int // arguments that may follow these, each like the last one
}

// find is the command that words ask for, and those of them that are its numbers.
func find(words []string) (command, []string, api.Errno) {
	first, rest := words[0], words[1:]
	if first != engineWord {
		c, ok := commandOf(first)
		if !ok {
			return c, nil, api.ErrWord
		}
		return c, rest, api.OK
	}
	if len(rest) == 0 {
		return command{}, nil, api.ErrNumber
	}
	c, ok := engineOf(rest[0])
	if !ok {
		return c, nil, api.ErrNumber
	}
	return c, rest[1:], api.OK
}

// commandOf is the table of commands, but for those that ask for an engine.
func commandOf(word string) (command, bool) {
	c := command{}
	switch word {
	case "run":
		c = command{do: (*player).run, args: []bounds{anyNumber}}
	case "pads":
		c = command{do: (*player).pads, args: []bounds{anyByte, anyByte}}
	case "reset":
		c.do = (*player).reset
	case "power":
		c.do = (*player).power
	case "flush":
		c.do = (*player).flush
	case "regs":
		c.do = (*player).regs
	case "peek":
		c = command{do: (*player).peek, args: []bounds{anyPlace, {1, 64}}}
	case "trace":
		c = command{do: (*player).trace, args: []bounds{{1, 256}}}
	case "list":
		c = command{do: (*player).list, args: []bounds{anyPlace, {1, 32}}}
	case "log":
		c.do = (*player).log
	case "events":
		c.do = (*player).events
	case "stats":
		c.do = (*player).stats
	case "sum":
		c.do = (*player).sum
	case "save":
		c = command{do: (*player).save, args: []bounds{anySlot}}
	case "load":
		c = command{do: (*player).load, args: []bounds{anySlot}}
	case "mark":
		c.do = (*player).mark
	case "back":
		c.do = (*player).back
	case "warm":
		c = command{do: (*player).warm, args: []bounds{anyPlace}, more: 15}
	case "script":
		c = command{do: (*player).script, args: []bounds{{0, api.MaxTurns}}}
	}
	return c, c.do != nil
}

// engineOf is the table of the words that ask for an engine.
func engineOf(word string) (command, bool) {
	c := command{}
	switch word {
	case "step":
		c.do = (*player).toStep
	case "interp":
		c.do = (*player).toInterp
	case "dbt":
		c = command{do: (*player).toDbt, args: []bounds{anyNumber, anyNumber}}
	}
	return c, c.do != nil
}

// read is the numbers that words are, if they are as many and as great as the command takes.
func (c command) read(words []string) ([]int, bool) {
	if len(words) < len(c.args) || len(words) > len(c.args)+c.more {
		return nil, false
	}
	args := make([]int, len(words))
	for i, word := range words {
		n, ok := numberOf(word)
		b := c.args[min(i, len(c.args)-1)]
		if !ok || n < b.least || n > b.most {
			return nil, false
		}
		args[i] = n
	}
	return args, true
}
