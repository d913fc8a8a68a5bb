package bus

import (
	"tandem/api"
	"tandem/mapper"
	"tandem/pads"
	"tandem/raster"
	"tandem/timer"
	"tandem/vram"
)

// Where the regions begin, and the ports among them.
const (
	videoStart    = 0x2000
	portStart     = 0x4000
	portDma       = 0x4014
	portStatus    = 0x4015
	portPads      = 0x4016
	portSequencer = 0x4017 // and the second pad's reads
	timerStart    = 0x4018
	timerEnd      = 0x401b
	workStart     = 0x6000
	prgStart      = 0x8000
)

// Sizes of what is mirrored.
const (
	ramSize  = 0x0800
	workSize = 0x2000
	videoSet = 8 // registers
)

// The video registers that the raster has a part in.
const (
	regCtrl   = 0
	regMask   = 1
	regStatus = 2
)

// padOpenBits is what of a pad's port stays open bus.
const padOpenBits = 0xe0

// region is what answers at some addresses: what a read gives and does, and what a write does. The cycle's end is not theirs.
type region struct {
	read  func(b *Bus, addr uint16) uint8
	write func(b *Bus, addr uint16, v uint8)
}

// regionOf decodes the address lines. What stays of the region that it begins with is an address at which nothing answers.
func regionOf(addr uint16) region {
	r := region{(*Bus).readNothing, (*Bus).writeNothing}
	switch {
	case addr < videoStart:
		r = region{(*Bus).readRam, (*Bus).writeRam}
	case addr < portStart:
		r = region{(*Bus).readVideo, (*Bus).writeVideo}
	case addr >= prgStart:
		r = region{(*Bus).readPrg, (*Bus).writeBoard}
	case addr >= workStart:
		r = region{(*Bus).readWork, (*Bus).writeWork}
	case addr == portDma:
		r.write = (*Bus).writeDma
	case addr == portPads:
		r = region{(*Bus).readPad, (*Bus).writePads}
	case addr == portSequencer:
		r = region{(*Bus).readPad, (*Bus).writeClock}
	case addr >= timerStart && addr <= timerEnd:
		r.write = (*Bus).writeClock
		fallthrough // its reads are the status port's, which can't be written
	case addr == portStatus:
		r.read = (*Bus).readClock
	}
	return r
}

// device tells whether an access is one of those that are logged.
func device(addr uint16, write bool) bool {
	return addr >= videoStart && addr < workStart || write && addr >= prgStart
}

// leavesTraces tells whether a read there may change what answers: a device's own port does, but neither memory nor an address at which nothing answers.
func leavesTraces(addr uint16) bool {
	return addr >= videoStart && addr < portStart || addr >= portStatus && addr <= timerEnd
}

// readNothing: the data lines keep what was on them.
func (b *Bus) readNothing(uint16) uint8 {
	return b.mem.Open
}

func (b *Bus) writeNothing(uint16, uint8) {}

func (b *Bus) readRam(addr uint16) uint8 {
	return b.mem.Ram[addr%ramSize]
}

func (b *Bus) writeRam(addr uint16, v uint8) {
	b.mem.Ram[addr%ramSize] = v
	b.stored(ramPlace(addr))
}

func (b *Bus) readVideo(addr uint16) uint8 {
	m := &b.mem
	reg := int(addr % videoSet)
	status := uint8(0)
	if reg == regStatus {
		status, m.Raster = raster.Status(m.Raster)
	}
	v, video := vram.Read(m.Video, m.Board, b.chr, reg, status)
	m.Video = video
	return v
}

func (b *Bus) writeVideo(addr uint16, v uint8) {
	m := &b.mem
	reg := int(addr % videoSet)
	m.Video = vram.Write(m.Video, m.Board, reg, v)
	switch reg {
	case regCtrl:
		m.Raster = raster.Ctrl(m.Raster, v)
	case regMask:
		m.Raster = raster.Mask(m.Raster, v)
	}
}

func (b *Bus) writeDma(_ uint16, v uint8) {
	b.mem.Dma = api.Dma{On: true, Page: v}
}

func (b *Bus) readClock(addr uint16) uint8 {
	v, mask, clock := timer.Read(b.mem.Clock, addr)
	b.mem.Clock = clock
	return v | b.mem.Open&^mask
}

func (b *Bus) writeClock(addr uint16, v uint8) {
	b.mem.Clock = timer.Write(b.mem.Clock, addr, v, b.mem.Cycle)
}

func (b *Bus) readPad(addr uint16) uint8 {
	bit, port := pads.Read(b.mem.Pads, int(addr-portPads))
	b.mem.Pads = port
	return bit | b.mem.Open&padOpenBits
}

func (b *Bus) writePads(_ uint16, v uint8) {
	b.mem.Pads = pads.Write(b.mem.Pads, v)
}

func (b *Bus) readWork(addr uint16) uint8 {
	if !b.workReads() {
		return b.mem.Open
	}
	return b.mem.Work[addr%workSize]
}

func (b *Bus) writeWork(addr uint16, v uint8) {
	if b.workWrites() {
		b.mem.Work[addr%workSize] = v
		b.stored(workPlace(addr))
	}
}

func (b *Bus) readPrg(addr uint16) uint8 {
	return b.prg[mapper.PrgAt(b.mem.Board, addr)]
}

func (b *Bus) writeBoard(addr uint16, v uint8) {
	m := &b.mem
	m.Board = mapper.Write(m.Board, addr, v, b.readPrg(addr), m.Cycle)
}

// workReads tells whether the board lets work RAM be read.
func (b *Bus) workReads() bool {
	return mapper.RamMode(b.mem.Board) >= 1
}

// workWrites tells whether the board lets work RAM be written.
func (b *Bus) workWrites() bool {
	return mapper.RamMode(b.mem.Board) == 2
}
