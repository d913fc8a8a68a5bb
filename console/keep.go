package console

import (
	"strconv"

	"tandem/api"
	"tandem/cart"
	"tandem/snap"
)

func (p *player) sum([]int) api.Errno {
	data, e := p.snapshot()
	if e != api.OK {
		return e
	}
	p.tell("sum", hex8(cart.Crc(data)))
	return api.OK
}

func (p *player) save(args []int) api.Errno {
	slot := args[0]
	data, e := p.snapshot()
	if e != api.OK {
		return e
	}
	p.slots[slot] = data
	p.tell("saved", strconv.Itoa(slot), strconv.Itoa(len(data)))
	return api.OK
}

func (p *player) load(args []int) api.Errno {
	slot := args[0]
	data := p.slots[slot]
	if data == nil {
		return api.ErrSlot
	}
	if e := p.goOnFrom(data); e != api.OK {
		return e
	}
	p.tell("loaded", strconv.Itoa(slot))
	return api.OK
}

func (p *player) mark([]int) api.Errno {
	data, e := p.snapshot()
	if e != api.OK {
		return e
	}
	if e := p.tape.Push(data); e != api.OK {
		return e
	}
	p.tell("marked", strconv.Itoa(p.tape.Len()))
	return api.OK
}

func (p *player) back([]int) api.Errno {
	data, e := p.tape.Back()
	if e != api.OK {
		return e
	}
	if e := p.goOnFrom(data); e != api.OK {
		return e
	}
	p.tell("back", strconv.Itoa(p.tape.Len()))
	return api.OK
}

// snapshot is the machine as bytes.
func (p *player) snapshot() ([]byte, api.Errno) {
	return snap.Save(p.cartSum, *p.state())
}

// goOnFrom puts the machine of a snapshot in the machine's place.
func (p *player) goOnFrom(data []byte) api.Errno {
	s, e, _ := snap.Load(p.cartSum, data)
	if e != api.OK {
		return e
	}
	return p.replace(p.engine.from(&p.cart, &s))
}
