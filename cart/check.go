package cart

import (
	"math/bits"

	"tandem/api"
)

// The fields' numbers.
const (
	fieldFormat = iota
	fieldMapper
	fieldSub
	fieldVert
	fieldFour
	fieldBattery
	fieldConsole
	fieldKind
	fieldTiming
	fieldDevice
	fieldMisc
	fieldPrgRam
	fieldPrgNv
	fieldChrRam
	fieldChrNv
	fieldTrainer
	fieldPrg
	fieldChr
	fieldRest
	fieldCount
)

// bound is the greatest numbers that a format can tell; the least are 0.
type bound struct {
	mapper, sub, console, timing, device, misc int
	work                                       int // units of work RAM, where they are counted
}

// bounds stand by the formats' numbers.
var bounds = [3]bound{
	{mapper: 15, work: 1},
	{mapper: 255, console: 2, timing: 1, work: 255},
	{mapper: 4095, sub: 15, console: 3, timing: 3, device: 63, misc: 3},
}

// wrongField is the number of the first field that may not be as it is; -1 if all may.
func wrongField(c api.Cart) int {
	if !within(c.Format, api.Nes2) {
		return fieldFormat
	}
	for n, may := range mayBe(c) {
		if !may {
			return n
		}
	}
	return -1
}

// mayBe tells of each field whether it may be as it is, in a cartridge whose format is one.
func mayBe(c api.Cart) [fieldCount]bool {
	most := bounds[c.Format]
	return [fieldCount]bool{
		fieldFormat:  true,
		fieldMapper:  within(c.Mapper, most.mapper),
		fieldSub:     within(c.Sub, most.sub),
		fieldVert:    true,
		fieldFour:    true,
		fieldBattery: true,
		fieldConsole: within(c.Console, most.console),
		fieldKind:    kindMayBe(c),
		fieldTiming:  within(c.Timing, most.timing),
		fieldDevice:  within(c.Device, most.device),
		fieldMisc:    within(c.Misc, most.misc),
		fieldPrgRam:  workMayBe(c, c.PrgRam, !c.Battery),
		fieldPrgNv:   workMayBe(c, c.PrgNv, c.Battery),
		fieldChrRam:  chrRamMayBe(c, c.ChrRam, impliedChrRam(c)),
		fieldChrNv:   chrRamMayBe(c, c.ChrNv, 0),
		fieldTrainer: len(c.Trainer) == 0 || len(c.Trainer) == trainerLen,
		fieldPrg:     len(c.Prg) > 0 && romMayBe(c, len(c.Prg), api.PrgUnit, api.MaxPrg),
		fieldChr:     romMayBe(c, len(c.Chr), api.ChrUnit, api.MaxChr),
		fieldRest:    restMayBe(c),
	}
}

// within tells whether a number is one from 0 to most.
func within(n, most int) bool {
	return n >= 0 && n <= most
}

func kindMayBe(c api.Cart) bool {
	if c.Format != api.Nes2 {
		return c.Kind == 0
	}
	return within(c.Kind, greatestKind(c.Console))
}

// workMayBe tells whether work RAM may have that size; named says whether Battery makes it the one of the two that an older format counts.
func workMayBe(c api.Cart, size int, named bool) bool {
	if c.Format == api.Nes2 {
		return ramMayBe(size)
	}
	if !named {
		return size == 0
	}
	return size > 0 && size%ramUnit == 0 && size/ramUnit <= bounds[c.Format].work
}

// chrRamMayBe tells whether a memory beside CHR may have that size; implied is what an older format takes for granted.
func chrRamMayBe(c api.Cart, size, implied int) bool {
	if c.Format == api.Nes2 {
		return ramMayBe(size)
	}
	return size == implied
}

// ramMayBe tells whether NES 2.0's four bits can say that size.
func ramMayBe(size int) bool {
	for n := range uint8(16) {
		if ramSize(n) == size {
			return true
		}
	}
	return false
}

// impliedChrRam is the CHR-RAM of the two older formats, which do not tell it.
func impliedChrRam(c api.Cart) int {
	if len(c.Chr) == 0 {
		return ramUnit
	}
	return 0
}

// romMayBe tells whether PRG or CHR may have that size.
func romMayBe(c api.Cart, size, unit, most int) bool {
	if size > most {
		return false
	}
	return size%unit == 0 || c.Format == api.Nes2 && oddPart(size) <= 7
}

// oddPart is a number above 0 without its powers of two.
func oddPart(n int) int {
	return n >> bits.TrailingZeros(uint(n))
}

func restMayBe(c api.Cart) bool {
	if restBarred(c) {
		return len(c.Rest) == 0
	}
	return len(c.Rest) >= leastRest(c)
}

// restBarred tells whether nothing may follow CHR.
func restBarred(c api.Cart) bool {
	return c.Format == api.Nes2 && c.Misc == 0
}

// leastRest is how many bytes must follow CHR.
func leastRest(c api.Cart) int {
	switch {
	case c.Format == api.INes && c.Console == hotel:
		return hotelRom
	case c.Format == api.Nes2:
		return c.Misc
	}
	return 0
}

// imageLen is how many bytes a cartridge's image has.
func imageLen(c api.Cart) int {
	return headLen + len(c.Trainer) + len(c.Prg) + len(c.Chr) + len(c.Rest)
}
