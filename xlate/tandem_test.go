package xlate_test

import (
	"math/rand"
	"testing"

	"tandem/api"
	"tandem/bus"
	"tandem/interp"
	"tandem/xlate"
)

// onBus is a machine's bus as a block's memory: a store on the block's own bytes leaves it.
type onBus struct {
	*bus.Bus
	first, size int
}

func (m onBus) Store(addr uint16, v uint8) bool {
	m.Bus.Store(addr, v)
	by := m.Place(addr) - m.first
	return by >= 0 && by < m.size
}

// machineAt is a machine whose memories are full of what may be code, and whose CPU no interrupt can reach.
func machineAt(t *testing.T, r *rand.Rand, c api.Cart, regs api.Regs) *interp.Machine {
	t.Helper()
	m, e := interp.New(c)
	if e != api.OK {
		t.Fatalf("mapper %d: %d", c.Mapper, e)
	}
	s := m.State()
	lay(r, s.Mem.Ram[:])
	lay(r, s.Mem.Work[:])
	s.Mem.Open, s.Mem.Cycle = anyByte(r), r.Intn(1000)
	s.Cpu = api.Cpu{Regs: regs}
	m, e = interp.From(c, s)
	if e != api.OK {
		t.Fatalf("mapper %d: %d", c.Mapper, e)
	}
	return m
}

// codeAt is the bytes from an address on to its window's end.
func codeAt(b *bus.Bus, pc uint16) []byte {
	size := 0x2000
	if pc < 0x2000 {
		size = 0x800
	}
	var code []byte
	for a := int(pc); a < (int(pc)/size+1)*size; a++ {
		code = append(code, b.Load(uint16(a)))
	}
	return code
}

// A block on a bus is its instructions on the machine that goes from boundary to boundary: registers, memories, the open bus, devices, cycle for cycle.
func TestBlocksBesideTheMachine(t *testing.T) {
	r := rand.New(rand.NewSource(1309))
	insts, left := 0, map[uint8]int{}
	for _, c := range []api.Cart{{PrgRam: 8192, Prg: make([]byte, 2*api.PrgUnit)}, {Mapper: api.UxROM, Sub: 2, Prg: make([]byte, 8*api.PrgUnit)}, {Mapper: api.MMC3, PrgRam: 8192, Prg: make([]byte, 4*api.PrgUnit), Chr: make([]byte, api.ChrUnit)}} {
		lay(r, c.Prg)
		for range 700 {
			pc := anyPlace(r)
			regs := anyRegs(r, pc)
			regs.P = regs.P&0xcf | 0x24
			if r.Intn(4) == 0 && pc < 0x2000 {
				regs.S = uint8(int(pc) + r.Intn(20))
			}
			m := machineAt(t, r, c, regs)
			tag := m.Bus().Tag(pc)
			if tag == api.TagNone {
				continue
			}
			beside, _ := interp.From(c, m.State())
			b := made(t, pc, tag, some(r, 1, 4, 64), codeAt(m.Bus(), pc)...)
			o := xlate.Run(b, regs, m.State().Mem.Open, onBus{m.Bus(), m.Bus().Place(pc), len(b.Bytes)})
			m.Bus().Settle(o.Cycles, o.Open)
			m.SetCpu(api.Cpu{Regs: o.Regs})
			for range o.Insts {
				beside.Step()
			}
			if got, want := m.State(), beside.State(); got != want {
				t.Fatalf("P18: %s% X from %+v: %s, cycle %d; the machine: %+v, open %02X, cycle %d", xlate.Text(b), b.Bytes, regs, short(o), got.Mem.Cycle, want.Cpu, want.Mem.Open, want.Mem.Cycle)
			}
			if l := beside.Log(); len(l) != 0 {
				t.Fatalf("P18: % X from %+v has done %d instructions and touched devices: %+v", b.Bytes, regs, o.Insts, l)
			}
			if o.Left == api.LeftGuard && m.Bus().Plain(0x6000, true) { // the instruction that it was left ahead of touches a device, or else work RAM that is none
				if beside.Step(); len(beside.Log()) == 0 {
					t.Fatalf("P18: % X from %+v is left ahead of instruction %d, which touches no device", b.Bytes, regs, o.Insts)
				}
			}
			insts += o.Insts
			left[o.Left]++
		}
	}
	if insts < 3000 || left[api.LeftStore] < 5 || left[api.LeftGuard] < 300 || left[api.LeftEnd] < 300 {
		t.Errorf("%d instructions were done, the blocks were left in these ways: %v: too few to tell", insts, left)
	}
}
