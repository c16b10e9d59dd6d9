package text

import (
	"math"

	"roundelay/api"
)

// reader reads the line of an event, byte by byte. It stops in front of the first byte
// that cannot be there, and stays there whatever else is to be read.
type reader struct {
	line    string
	at      int // the position of the next byte
	stopped bool
}

// event reads an event.
func (r *reader) event() api.Event {
	var x api.Event
	x.Call = r.field()
	x.Inv = r.field()
	x.Resp = r.field()
	x.Steps = r.field()
	x.Answer.Err = api.Errno(r.field())
	x.Answer.Val = r.word()
	r.pass(' ')
	x.Answer.List = list(r, r.word)
	r.pass(' ')
	x.Key = list(r, r.integer)
	return x
}

// field reads a number that may be negative, and the space behind it.
func (r *reader) field() int {
	x := r.integer()
	r.pass(' ')
	return x
}

// list reads a list whose numbers are each read by next.
func list[T number](r *reader, next func() T) []T {
	var l []T
	r.pass('[')
	if r.skip(']') {
		return l
	}
	for !r.stopped {
		l = append(l, next())
		if r.skip(']') {
			return l
		}
		r.pass(' ')
	}
	return nil
}

// word reads a number that is not negative.
func (r *reader) word() uint64 {
	return r.magnitude(math.MaxUint64)
}

// integer reads a number that may be negative.
func (r *reader) integer() int {
	if !r.skip('-') {
		return int(r.magnitude(math.MaxInt))
	}
	if d, ok := r.digit(); ok && d == 0 {
		r.stopped = true // there is no -0
		return 0
	}
	// The least number has no room in an int before it is negated.
	return int(-r.magnitude(-math.MinInt))
}

// magnitude reads the digits of a number, as long as it is at most so great.
func (r *reader) magnitude(most uint64) uint64 {
	if r.skip('0') {
		return 0
	}
	begin := r.at
	var x uint64
	for {
		d, ok := r.digit()
		if !ok || x > (most-d)/10 {
			break
		}
		x = 10*x + d
		r.at++
	}
	if r.at == begin {
		r.stopped = true
	}
	return x
}

// digit returns the next byte as a digit, if it is one, and does not go past it.
func (r *reader) digit() (uint64, bool) {
	if r.stopped || r.at == len(r.line) {
		return 0, false
	}
	c := r.line[r.at]
	if c < '0' || c > '9' {
		return 0, false
	}
	return uint64(c - '0'), true
}

// pass goes past a byte that has to be next.
func (r *reader) pass(c byte) {
	if !r.skip(c) {
		r.stopped = true
	}
}

// skip goes past a byte if it is next, and tells whether it is.
func (r *reader) skip(c byte) bool {
	if r.stopped || r.at == len(r.line) || r.line[r.at] != c {
		return false
	}
	r.at++
	return true
}
