package rewind

import "tandem/api"

// Tape is the last snapshots, the newest whole, the others as patches.
type Tape struct {
	made   bool // by NewTape
	held   bool // there is a snapshot: one without bytes is one too
	newest []byte
	older  ring[[]byte] // for each of the others, the patch that makes it out of the next newer one
	room   int          // bytes of these patches
}

// NewTape is an empty tape for so many snapshots.
func NewTape(limit int) (*Tape, api.Errno) {
	if limit < 1 || limit > api.MaxTape {
		return nil, api.ErrArg
	}
	return &Tape{made: true, older: newRing[[]byte](limit - 1)}, api.OK
}

// Push puts a snapshot on the tape; the oldest goes if there is no room.
func (t *Tape) Push(data []byte) api.Errno {
	switch {
	case t.none():
		return api.OK
	case len(data) > api.MaxSnap:
		return api.ErrLong
	case t.held:
		patch := copied(Diff(data, t.newest))
		lost, _ := t.older.push(patch)
		t.room += len(patch) - len(lost)
	}
	t.newest, t.held = copied(data), true
	return api.OK
}

// Back takes the newest snapshot from the tape.
func (t *Tape) Back() ([]byte, api.Errno) {
	switch {
	case t.none():
		return nil, api.OK
	case !t.held:
		return nil, api.ErrEmpty
	}
	data := t.newest
	t.newest, t.held = nil, false
	if patch, ok := t.older.takeNewest(); ok {
		t.newest, t.held = patched(copied(data), patch)
		t.room -= len(patch)
	}
	return data, api.OK
}

// At is the snapshot that is i ones behind the newest; it stays on the tape.
func (t *Tape) At(i int) ([]byte, api.Errno) {
	switch {
	case t.none():
		return nil, api.OK
	case i < 0 || i >= t.Len():
		return nil, api.ErrArg
	}
	data := copied(t.newest)
	for k := range i {
		data, _ = patched(data, t.older.at(k))
	}
	return data, api.OK
}

// Len is how many snapshots the tape holds.
func (t *Tape) Len() int {
	if t.none() || !t.held {
		return 0
	}
	return 1 + t.older.length()
}

// Bytes is how many bytes it holds: the newest snapshot's and all patches'.
func (t *Tape) Bytes() int {
	if t.none() {
		return 0
	}
	return len(t.newest) + t.room
}

// none tells whether this is no tape that NewTape made.
func (t *Tape) none() bool { return t == nil || !t.made }
