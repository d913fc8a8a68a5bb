package console

import (
	"strconv"
	"strings"

	"tandem/api"
	"tandem/pads"
)

func (p *player) run(args []int) api.Errno {
	done, e := p.turn(p.state(), args[0])
	if e != api.OK {
		return e
	}
	p.tell("ran", strconv.Itoa(done))
	return api.OK
}

func (p *player) pads(args []int) api.Errno {
	one, two := uint8(args[0]), uint8(args[1])
	p.engine.Press(one, two)
	p.tell("pads", hex2(one), hex2(two))
	return api.OK
}

func (p *player) reset([]int) api.Errno {
	if e := p.engine.Reset(); e != api.OK {
		return e
	}
	p.tell("reset")
	return api.OK
}

// script plays the lines behind its own, which are no commands then.
func (p *player) script(args []int) api.Errno {
	n := args[0]
	if n > len(p.lines)-p.at {
		return api.ErrNumber
	}
	text := strings.Builder{}
	for _, line := range p.lines[p.at : p.at+n] {
		text.WriteString(line + "\n")
	}
	e := p.playScript(text.String())
	if e == api.OK {
		p.at += n
	}
	return e
}

// playScript plays a script's text, which begins behind the line that is played.
func (p *player) playScript(text string) api.Errno {
	turns, e, line := pads.Parse(text)
	if e != api.OK {
		p.at += line // the line of the fault, not script's own
		return e
	}
	cycles := 0
	for _, t := range turns {
		done, e := p.engine.Play(t)
		if e != api.OK {
			return e
		}
		cycles += done
	}
	p.tell("played", strconv.Itoa(len(turns)), strconv.Itoa(cycles))
	return api.OK
}

// turn goes on by a budget, with the pads as the machine's state s has them: the cycles done.
func (p *player) turn(s *api.State, budget int) (int, api.Errno) {
	held := s.Mem.Pads.Held
	return p.engine.Play(api.Turn{Budget: uint32(budget), One: held[0], Two: held[1]})
}
