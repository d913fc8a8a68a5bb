package interp_test

import (
	"math/rand"
	"testing"

	"tandem/api"
	"tandem/bus"
)

// A CPU that is not valid is not put in, and nothing else happens.
func TestSetCpuRefuses(t *testing.T) {
	m := behindReset(t, 0x8d, 0x00, 0x20)
	steps(t, "a write to $2000", m, 4)
	was := m.State()
	refuses := func(name string, c api.Cpu) {
		t.Helper()
		m.SetCpu(c)
		same(t, "P12.2: SetCpu with "+name, m.State(), was)
	}
	for name, turn := range wrongCpus {
		c := api.Cpu{Regs: api.Regs{A: 1, X: 2, Y: 3, S: 4, P: 0x20, PC: 5}}
		turn(&c)
		refuses(name, c)
	}
	refuses("no CPU", api.Cpu{})
	for p := range 256 {
		if p&0x30 != 0x20 {
			refuses("such a P", api.Cpu{Regs: api.Regs{A: 1, P: uint8(p)}})
		}
	}
	for take := 4; take < 256; take++ {
		refuses("such a Take", api.Cpu{Regs: api.Regs{A: 1, P: 0x20}, Take: uint8(take)})
	}
	logs(t, "P12.2: SetCpu", m, api.Access{Cycle: 10, Addr: 0x2000, Write: true})

	m = at(t, console(), func(s *api.State) { s.Mem.Nmi = true })
	was = m.State()
	refuses("Jam and an NMI that waits", api.Cpu{Regs: api.Regs{P: 0x20}, Take: 2, Jam: true})
}

// A valid one is, and what follows goes by it: what comes of it is what comes of a machine that was made so.
func TestSetCpuTakes(t *testing.T) {
	r := rand.New(rand.NewSource(1200))
	for _, c := range carts() {
		m := begun(t, c)
		for range 200 {
			latch, _ := m.Bus().Poll()
			cpu := anyCpu(r, latch)
			was := m.State()
			m.SetCpu(cpu)
			want := api.State{Cpu: cpu, Mem: was.Mem}
			same(t, "P12.2: SetCpu", m.State(), want)
			p := beside(t, c, want)
			for range 5 {
				m.Step()
				p.step("behind SetCpu")
			}
			same(t, "P12.2: behind SetCpu", m.State(), p.m.State())
			if m.Cpu() != m.State().Cpu {
				t.Fatalf("P12.2: Cpu() is %+v", m.Cpu())
			}
		}
	}
}

// The latch that counts is that of now.
func TestSetCpuAndTheLatch(t *testing.T) {
	m := at(t, console(), func(s *api.State) { s.Mem.Nmi = true })
	nmi := api.Cpu{Regs: api.Regs{S: 0xfd, P: 0x20, PC: 0x8123}, Take: api.TakeNmi}
	m.SetCpu(nmi)
	if m.Cpu() != nmi {
		t.Fatalf("P12.2: SetCpu with Take 2 and the latch set: %+v", m.Cpu())
	}
	steps(t, "P12.3: an NMI entry", m, 7)
	registers(t, "P12.3: an NMI entry", m, api.Regs{S: 0xfa, P: 0x24, PC: 0x9000})
	was := m.Cpu()
	m.SetCpu(nmi) // the entry has cleared it
	if m.Cpu() != was {
		t.Errorf("P12.2: SetCpu with Take 2 and the latch clear: %+v", m.Cpu())
	}
}

// The bus is the machine's own: what is done to it is done to the machine, and the other way round.
func TestBus(t *testing.T) {
	m := behindReset(t, 0xa5, 0x10, 0x85, 0x11)
	b := m.Bus()
	if b == nil || b != m.Bus() {
		t.Fatal("P12.2: Bus() is another one each time")
	}
	b.Store(0x10, 0x77)
	b.Write(0x2003, 0x44)
	b.Idle(10)
	steps(t, "P12.2: LDA, STA", m, 3, 3)
	s := m.State()
	if b.Peek(0x11) != 0x77 || b.Cycle() != 7+11+6 || s.Mem != b.Mem() || s.Mem.Video.OamAt != 0x44 {
		t.Errorf("P12.2: what is done to the bus: %#x, cycle %d", b.Peek(0x11), b.Cycle())
	}
	logs(t, "P12.2: a write of the bus", m, api.Access{Cycle: 7, Addr: 0x2003, Val: 0x44, Write: true})
	b.Write(0x2003, 0x45)
	if l := b.Log(); len(l) != 1 {
		t.Errorf("P12.2: the bus's own log: %+v", l)
	}
	logs(t, "P12.2: behind the bus's own Log", m)
	b.Write(0x4014, 0x02)
	steps(t, "P12.2: DMA that the bus was told of", m, 1)
	b.Reset()
	steps(t, "P12.2: and not any more", m, 2)
}

func TestPress(t *testing.T) {
	m := at(t, console(0xad, 0x16, 0x40, 0xad, 0x17, 0x40), func(s *api.State) { s.Mem.Pads.Strobe = true })
	b, _ := bus.From(console(), m.State().Mem)
	for i := range 256 {
		m.Press(uint8(i), uint8(255-i))
		b.Press(uint8(i), uint8(255-i))
		if s := m.State(); s.Mem != b.Mem() || s.Mem.Pads.Held != [2]uint8{uint8(i), uint8(255 - i)} {
			t.Fatalf("P12.2: Press: %+v", s.Mem.Pads)
		}
	}
	m.Press(0x01, 0x02)
	steps(t, "P12.2: LDA $4016", m, 4)
	if a := m.Cpu().Regs.A; a != 0x41 {
		t.Errorf("P12.2: pad 0 reads as %#x", a)
	}
	steps(t, "P12.2: LDA $4017", m, 4)
	if a := m.Cpu().Regs.A; a != 0x40 {
		t.Errorf("P12.2: pad 1 reads as %#x", a)
	}
}
