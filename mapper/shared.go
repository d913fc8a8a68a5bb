package mapper

import "tandem/api"

// The bounds of the sizes.
const (
	mostPrg   = 128 // banks of 8 KiB
	mostChr   = 512 // banks of 1 KiB
	chrRamLen = 8   // banks of 1 KiB, where the CHR is RAM
)

// shared is what every kind has; its methods are how a board behaves that does nothing of its own.
type shared struct {
	sub          int
	hard         api.Mirror
	work, chrRam bool
	prg, chr     int
	epoch        int
}

func sharedOf(b api.Board) shared {
	return shared{b.Sub, b.Hard, b.Work, b.ChrRam, b.Prg, b.Chr, b.Epoch}
}

// plainOf is the plain value of that kind with all registers 0.
func (s *shared) plainOf(kind int) api.Board {
	return api.Board{Kind: kind, Sub: s.sub, Hard: s.hard, Work: s.work, ChrRam: s.chrRam, Prg: s.prg, Chr: s.chr, Epoch: s.epoch}
}

// sizesFit tells whether all may be as it is that doesn't hang on the kind.
func (s *shared) sizesFit() bool {
	switch s.hard {
	case api.Horizontal, api.Vertical, api.FourPages:
	default:
		return false
	}
	return s.prg >= 2 && s.prg <= mostPrg && s.prg%2 == 0 &&
		s.chr >= 8 && s.chr <= mostChr && s.chr%8 == 0 &&
		(!s.chrRam || s.chr == chrRamLen) &&
		s.epoch >= 0 && s.epoch <= api.Never
}

// inPrg is a bank that the PRG has, for any number from 0 on.
func (s *shared) inPrg(n int) int {
	return n % s.prg
}

// inChr is a bank that the CHR has, for any number from 0 on.
func (s *shared) inChr(n int) int {
	return n % s.chr
}

// unlessWired is a mirroring that the board chooses; it can't where four pages are wired.
func (s *shared) unlessWired(m api.Mirror) api.Mirror {
	if s.hard == api.FourPages {
		return s.hard
	}
	return m
}

func (s *shared) nextEpoch() {
	s.epoch = min(s.epoch+1, api.Never)
}

func (s *shared) hasWork() bool {
	return s.work
}

func (s *shared) powerOn() {}

func (s *shared) registersFit() bool {
	return true
}

func (s *shared) bank(window int) int {
	return s.inPrg(window)
}

func (s *shared) chrBank(slot int) int {
	return s.inChr(slot)
}

func (s *shared) mirror() api.Mirror {
	return s.hard
}

func (s *shared) workMode() int {
	return ramOpen
}

func (s *shared) write(_ uint16, _, _ uint8, _ int) {}

func (s *shared) clock(int) {}

func (s *shared) toIrq() int {
	return -1
}
