package finish

import (
	"roundelay/desc"
	"roundelay/loom"
	"roundelay/node"
)

// action tells which access a machine makes in its next step.
type action int

const (
	readingEnd action = iota
	readingNext
	readingTaker
	readingDescriptor
	readingValue
	completing // the operation of a descriptor
	moving     // the end
	releasing  // the node that was the head
	over       // none: there is no access left
)

// either returns the first action if ok, and the second one otherwise.
func either(ok bool, then, otherwise action) action {
	if ok {
		return then
	}
	return otherwise
}

// ending is what finishing at either end has in common.
type ending struct {
	layout     Layout
	end        int // the address of the end
	next       action
	last       uint64 // the reference that is there
	behind     uint64 // that to the node behind it
	thread     int    // the one whose operation is completed
	descriptor uint64 // its descriptor
}

// readEnd tells whether there is a node at the end.
func (m *ending) readEnd(t loom.Turn) bool {
	m.last = t.Read(m.end)
	return m.layout.has(m.last)
}

// readNext tells whether there is a node behind the one at the end.
func (m *ending) readNext(t loom.Turn) bool {
	version, x := node.Unstamp(t.Read(m.layout.Next(m.last)))
	m.behind = x
	return version == m.version() && m.layout.has(x)
}

// readDescriptor tells whether the thread waits to take or to put with a load.
func (m *ending) readDescriptor(t loom.Turn, take bool, load uint64) bool {
	m.descriptor = t.Read(m.layout.Descriptor(m.thread))
	d := desc.Unpack(m.descriptor)
	return d.Pending && d.Take == take && d.Load == load
}

// complete completes the operation of the thread with a load. The error is
// always OK: what next of a node contains is a load, and so is a value plus 1.
func (m *ending) complete(t loom.Turn, load uint64) {
	done, _ := desc.Finish(m.descriptor, load)
	t.Swap(m.layout.Descriptor(m.thread), m.descriptor, done)
}

// move moves the end to the node behind it, and tells whether no other thread
// has done so before.
func (m *ending) move(t loom.Turn) bool {
	return t.Swap(m.end, m.last, m.behind)
}

// version returns that of the node at the end.
func (m *ending) version() uint64 {
	_, v := node.Split(m.last)
	return v
}

// atTail finishes at the tail.
type atTail struct {
	ending
}

// NewTail returns a machine that finishes at the tail of a queue.
func NewTail(l Layout) Machine {
	return &atTail{ending{layout: l, end: l.Tail()}}
}

// Step makes the next access.
func (m *atTail) Step(t loom.Turn) bool {
	switch m.next {
	case readingEnd:
		m.next = either(m.readEnd(t), readingNext, over)
	case readingNext:
		m.next = either(m.readNext(t) && m.findOwner(), readingDescriptor, over)
	case readingDescriptor:
		m.next = either(m.readDescriptor(t, false, m.behind), completing, moving)
	case completing:
		m.complete(t, m.behind)
		m.next = moving
	case moving:
		m.move(t)
		m.next = over
	}
	return m.next == over
}

// findOwner tells whether a thread owns the node behind the tail.
func (m *atTail) findOwner() bool {
	thread, ok := m.layout.Owner(m.behind)
	m.thread = thread
	return ok
}

// valueLimit is the least number that is no value.
const valueLimit = 1 << 24

// atHead finishes at the head.
type atHead struct {
	ending
	value uint64 // the one behind the head
}

// NewHead returns a machine that finishes at the head of a queue.
func NewHead(l Layout) Machine {
	return &atHead{ending: ending{layout: l, end: l.Head()}}
}

// Step makes the next access.
func (m *atHead) Step(t loom.Turn) bool {
	switch m.next {
	case readingEnd:
		m.next = either(m.readEnd(t), readingNext, over)
	case readingNext:
		m.next = either(m.readNext(t), readingTaker, over)
	case readingTaker:
		m.next = m.readTaker(t)
	case readingDescriptor:
		m.next = either(m.readDescriptor(t, true, m.last), readingValue, moving)
	case readingValue:
		_, low := node.Unvalue(t.Read(m.layout.Value(m.behind)))
		m.value = low % valueLimit
		m.next = completing
	case completing:
		m.complete(t, m.value+1)
		m.next = moving
	case moving:
		m.next = either(m.move(t), releasing, over)
	case releasing:
		m.release(t)
		m.next = over
	}
	return m.next == over
}

// readTaker returns what is next for the one that takes the value behind the
// head, if there is one: if it takes by its descriptor, it has to be told.
func (m *atHead) readTaker(t loom.Turn) action {
	version, number := node.Unstamp(t.Read(m.layout.Taker(m.last)))
	if version != m.version() || number == 0 {
		return over
	}
	if number > uint64(m.layout.threads) {
		return moving
	}
	m.thread = int(number) - 1
	return readingDescriptor
}

// release makes the node that was the head a place that is free.
func (m *atHead) release(t loom.Turn) {
	v := m.version()
	t.Swap(m.layout.Mark(m.last), 2*v+1, 2*v)
}
