package univ

import (
	"roundelay/api"
)

// entry is the word of an operation, by which it is announced, and put into the
// log; 0 stands for no operation.
type entry uint64

const (
	argLimit = 1 << 32 // the least argument that no operation can have

	// An entry has fields, from these bits on; above its argument are its kind,
	// its thread, and its number among the operations that the thread announced.
	kindAt   = 32
	threadAt = 40
	numberAt = 44

	kindSize   = threadAt - kindAt
	threadSize = numberAt - threadAt
)

// newEntry returns the word of a call that has this number for its thread.
func newEntry(c api.Call, number int) entry {
	return entry(c.A | uint64(c.Kind)<<kindAt | uint64(c.Thread)<<threadAt | uint64(number)<<numberAt)
}

// arg returns the argument.
func (e entry) arg() uint64 {
	return uint64(e) % argLimit
}

// kind returns the Kind of the operation.
func (e entry) kind() int {
	return int(e>>kindAt) % (1 << kindSize)
}

// thread returns the thread that announced the operation.
func (e entry) thread() int {
	return int(e>>threadAt) % (1 << threadSize)
}

// number returns the number that the operation has for its thread; that is in
// the highest field.
func (e entry) number() int {
	return int(e >> numberAt)
}
