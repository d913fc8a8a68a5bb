package xlate

import (
	"tandem/alu"
	"tandem/api"
)

// branch goes to its target if the flags say so.
func (d *doing) branch(o api.Micro) {
	n := d.next
	if !alu.Taken(o.Op, d.regs.P) {
		d.open = uint8(o.Arg - n) // the distance: the instruction's last byte
		return
	}
	d.extra++
	d.open = d.mem.Load(n)
	if crosses(n, o.Arg) {
		d.extra++
		d.open = d.mem.Load(inPage(n, o.Arg))
	}
	d.next = o.Arg
}

// goTo goes on at a target whose high byte was read last.
func (d *doing) goTo(target uint16) {
	d.next, d.open = target, uint8(target>>8)
}

// via goes to where a pointer leads. It answers false if the pointer is not plain.
func (d *doing) via(pointer uint16) bool {
	if !d.plain(pointer, false) || !d.plain(inPage(pointer, pointer+1), false) {
		return false
	}
	d.goTo(d.word(pointer))
	return true
}

// call pushes the address of the instruction's last byte, and goes to its target.
func (d *doing) call(target uint16) {
	last := d.next - 1
	d.push(uint8(last >> 8))
	d.push(uint8(last))
	d.goTo(target)
}

// goBack goes on behind the address that lies on the stack. It answers false if that address, which is read for nothing, is not plain.
func (d *doing) goBack() bool {
	was := d.regs.S
	d.regs.S++
	low := d.mem.Load(d.top())
	d.regs.S++
	pulled := uint16(low) | uint16(d.mem.Load(d.top()))<<8
	if !d.plain(pulled, false) {
		d.regs.S = was
		return false
	}
	d.open = d.mem.Load(pulled)
	d.next = pulled + 1
	return true
}

// top is where the stack pointer points to.
func (d *doing) top() uint16 {
	return stackPage + uint16(d.regs.S)
}

// push puts a byte on the stack.
func (d *doing) push(v uint8) {
	d.store(d.top(), v)
	d.regs.S--
}
