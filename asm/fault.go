package asm

import (
	"errors"
	"strconv"
)

// What may be wrong with a source. Each stands within a Fault.
var (
	ErrSize      = errors.New("too long")
	ErrToken     = errors.New("not a token")
	ErrName      = errors.New("not a name that may be given")
	ErrTwice     = errors.New("name given twice")
	ErrUnknown   = errors.New("unknown name")
	ErrMode      = errors.New("no such operand here")
	ErrRange     = errors.New("number out of range")
	ErrFar       = errors.New("branch too far")
	ErrDirective = errors.New("not a directive")
	ErrOver      = errors.New("place written twice, or beyond its bank")
	ErrDeep      = errors.New("too deep")
)

// Fault is what is wrong, and where: lines and columns (of bytes) from 1 on.
type Fault struct {
	Line, Col int
	Err       error
}

// Error tells the fault in words.
func (f *Fault) Error() string {
	if f == nil {
		return ""
	}
	words := ""
	if f.Err != nil {
		words = f.Err.Error()
	}
	return strconv.Itoa(f.Line) + ":" + strconv.Itoa(f.Col) + ": " + words
}

// Unwrap is what is wrong.
func (f *Fault) Unwrap() error {
	if f == nil {
		return nil
	}
	return f.Err
}

// wrong is a fault at a column. Who reads a line does not know its number: onLine puts it in.
func wrong(col int, err error) error {
	return &Fault{Col: col, Err: err}
}

// onLine puts the line into a fault.
func onLine(line int, err error) error {
	var f *Fault
	if errors.As(err, &f) {
		f.Line = line
	}
	return err
}
