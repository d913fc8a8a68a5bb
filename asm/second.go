package asm

import (
	"bytes"

	"tandem/api"
)

// secondPass works out what the first has left, and lays the bytes.
func (p *program) secondPass() error {
	clear(p.chars)
	for _, st := range p.list {
		if err := p.finish(st); err != nil {
			return onLine(st.line, err)
		}
	}
	return nil
}

// finish does what the second pass has to do of a statement.
func (p *program) finish(st *statement) error {
	switch st.does {
	case doOrg, doBank:
		p.joined = false
	case doOperation:
		return p.instruction(st)
	case doByte, doWord:
		return p.items(st)
	case doRes, doAlign:
		return p.fill(st)
	case doCharmap:
		p.chars[st.char] = st.value & 255
	case doUncharmap:
		delete(p.chars, st.char)
	}
	return nil
}

// lay lays a statement's next bytes.
func (p *program) lay(st *statement, data ...byte) {
	if len(data) == 0 {
		return
	}
	if !p.joined {
		p.segs = append(p.segs, api.Seg{Bank: st.bank, Org: st.address})
		p.joined = true
	}
	last := &p.segs[len(p.segs)-1]
	last.Data = append(last.Data, data...)
}

// instruction lays an opcode and its operand.
func (p *program) instruction(st *statement) error {
	if st.size == 1 {
		p.lay(st, st.code)
		return nil
	}
	v, err := st.e.value(p.scope(st))
	if err != nil {
		return err
	}
	if low, high := st.bounds(); v < low || v > high {
		return wrong(st.operand.col, ErrRange)
	}
	switch {
	case st.mode == api.ModeRel:
		distance := int16(v - st.address - 2)
		if distance < -128 || distance > 127 {
			return wrong(st.operand.col, ErrFar)
		}
		p.lay(st, st.code, uint8(distance))
	case st.size == 2:
		p.lay(st, st.code, uint8(v))
	default:
		p.lay(st, st.code, uint8(v), uint8(v>>8))
	}
	return nil
}

// bounds is the bounds of an operand's value.
func (st *statement) bounds() (int, int) {
	switch {
	case st.mode == api.ModeImm:
		return -128, 255
	case st.mode == api.ModeRel || st.size == 3:
		return 0, 65535
	}
	return 0, 255
}

// items lays a list of bytes, words and texts.
func (p *program) items(st *statement) error {
	s := p.scope(st)
	for _, it := range st.items {
		if it.isText {
			data, err := s.bytes(it)
			if err != nil {
				return err
			}
			p.lay(st, data...)
			continue
		}
		v, err := it.e.within(s, st.least, st.most)
		if err != nil {
			return err
		}
		if st.does == doWord {
			p.lay(st, uint8(v), uint8(v>>8))
		} else {
			p.lay(st, uint8(v))
		}
	}
	return nil
}

// bytes is the bytes of a text.
func (s *scope) bytes(it item) ([]byte, error) {
	var data []byte
	for _, r := range it.text {
		v, ok := s.char(r)
		if !ok {
			return nil, wrong(it.e.col, ErrRange)
		}
		data = append(data, uint8(v))
	}
	return data, nil
}

// fill lays as many bytes as the first pass has settled. What they are is looked at even where there are none.
func (p *program) fill(st *statement) error {
	v := 0
	for _, it := range st.items {
		var err error
		if v, err = it.e.within(p.scope(st), -128, 255); err != nil {
			return err
		}
	}
	p.lay(st, bytes.Repeat([]byte{uint8(v)}, st.size)...)
	return nil
}
