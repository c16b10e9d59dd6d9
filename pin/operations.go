package pin

import (
	"roundelay/api"
	"roundelay/loom"
)

// action is what a step does.
type action func(t loom.Turn) (api.Answer, bool)

// write is an operation that writes the words to a buffer in which no reader
// is, and puts this buffer into the cell.
type write struct {
	register *register
	first    uint64 // the number that is written to the first word
	buffer   int    // the one that it has reached
	written  int    // how many words it has written
	next     action
}

// newWrite returns the operation that writes numbers from the first one on.
func newWrite(r *register, first uint64) *write {
	o := &write{register: r, first: first, buffer: r.from(0)}
	o.next = o.look
	return o
}

// Step does what is next.
func (o *write) Step(t loom.Turn) (api.Answer, bool) {
	return o.next(t)
}

// look reads how many readers have left a buffer. There are as many buffers to
// look at as threads, but thread 0 reads none now: all others together cannot
// keep each of them, so that one is free before there is none left.
func (o *write) look(t loom.Turn) (api.Answer, bool) {
	if t.Read(o.register.left(o.buffer)) == o.register.entered[o.buffer] {
		o.next = o.fill
	} else {
		o.buffer = o.register.from(o.buffer + 1)
	}
	return api.Answer{}, false
}

// fill writes a word of the buffer.
func (o *write) fill(t loom.Turn) (api.Answer, bool) {
	t.Write(o.register.word(o.buffer, o.written), o.first+uint64(o.written))
	o.written++
	if o.written == o.register.width {
		o.next = o.publish
	}
	return api.Answer{}, false
}

// publish puts the buffer into the cell. It adds the difference, as readers
// may enter at any time, and none of them must be lost.
func (o *write) publish(t loom.Turn) (api.Answer, bool) {
	d := uint64(o.buffer) - uint64(o.register.current)
	x := t.Add(o.register.cell, d*bufferUnit)
	o.register.change(o.buffer, x)
	return api.Answer{}, true
}

// read is an operation that enters the buffer in the cell, reads its words, and
// leaves it.
type read struct {
	register *register
	entry    int // the tick of the first access
	buffer   int
	words    []uint64
	key      []int
	next     action
}

// newRead returns the operation that reads all words.
func newRead(r *register) *read {
	o := &read{register: r}
	o.next = o.enter
	return o
}

// Step does what is next.
func (o *read) Step(t loom.Turn) (api.Answer, bool) {
	return o.next(t)
}

// enter finds the buffer in the cell, and counts the reader, in one access: the
// buffer cannot be written from then on.
func (o *read) enter(t loom.Turn) (api.Answer, bool) {
	o.entry = t.Tick
	o.buffer = int(t.Add(o.register.cell, 1) / bufferUnit)
	o.next = o.take
	return api.Answer{}, false
}

// take reads a word of the buffer.
func (o *read) take(t loom.Turn) (api.Answer, bool) {
	o.words = append(o.words, t.Read(o.register.word(o.buffer, len(o.words))))
	if len(o.words) == o.register.width {
		o.next = o.leave
	}
	return api.Answer{}, false
}

// leave counts the reader as one that has left.
func (o *read) leave(t loom.Turn) (api.Answer, bool) {
	t.Add(o.register.left(o.buffer), 1)
	o.key = []int{2 * o.entry}
	return api.Answer{List: o.words}, true
}

// Key returns the key of a read that has responded: when it entered, the buffer
// that was in the cell had been written last.
func (o *read) Key() []int {
	return o.key
}
