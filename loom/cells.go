package loom

import (
	"roundelay/api"
)

// Cells plays calls on words that are read, written, swapped, and added to.
func Cells(n, size int, calls []api.Call, picks []int) (api.Report, api.Errno) {
	return Play(n, calls, picks, NewCells(size))
}

// NewCells returns cells that have this many words.
func NewCells(size int) Object {
	return cells{size: size}
}

// maxCells is the greatest number of words that cells can have.
const maxCells = 64

// cells is an object whose operations are single accesses.
type cells struct {
	size int
}

// Size returns the number of words.
func (c cells) Size(int) (int, api.Errno) {
	if c.size < 1 || c.size > maxCells {
		return 0, api.ErrRange
	}
	return c.size, api.OK
}

// Place returns the cells from b on.
func (c cells) Place(_, b int) Placed {
	return placedCells{size: c.size, begin: b}
}

// placedCells is cells in a memory.
type placedCells struct {
	size, begin int
}

// Invoke returns the access for which a call asks.
func (c placedCells) Invoke(call api.Call) (Operation, api.Errno) {
	if call.Kind < 0 || call.Kind > 3 {
		return nil, api.ErrKind
	}
	if call.A >= uint64(c.size) {
		return nil, api.ErrRange
	}
	at := c.begin + int(call.A)
	switch call.Kind {
	case 0:
		return read{at: at}, api.OK
	case 1:
		return write{at: at, v: call.B}, api.OK
	case 2:
		return swap{at: at, old: call.B, fresh: call.C}, api.OK
	default:
		return add{at: at, d: call.B}, api.OK
	}
}

// read is an operation that reads a word.
type read struct {
	at int
}

// Step returns the word.
func (r read) Step(t Turn) (api.Answer, bool) {
	return api.Answer{Val: t.Read(r.at)}, true
}

// write is an operation that sets a word.
type write struct {
	at int
	v  uint64
}

// Step returns nothing but that it is done.
func (w write) Step(t Turn) (api.Answer, bool) {
	t.Write(w.at, w.v)
	return api.Answer{}, true
}

// swap is an operation that sets a word if it is what is expected.
type swap struct {
	at         int
	old, fresh uint64
}

// Step returns whether the word was set.
func (s swap) Step(t Turn) (api.Answer, bool) {
	if t.Swap(s.at, s.old, s.fresh) {
		return api.Answer{Val: 1}, true
	}
	return api.Answer{}, true
}

// add is an operation that adds to a word.
type add struct {
	at int
	d  uint64
}

// Step returns what the word was.
func (a add) Step(t Turn) (api.Answer, bool) {
	return api.Answer{Val: t.Add(a.at, a.d)}, true
}
