package finish

import (
	"roundelay/node"
)

// The numbers of the fields of a node.
const (
	next = iota
	taker
	value
	mark
)

// The words before the nodes, from the beginning of a queue on.
const (
	head = iota
	tail
	descriptors
)

// Layout tells where the words of a queue are in a memory. The words of a node
// are those of the one to which a reference refers, whatever its version is.
type Layout struct {
	threads, places, begin int
}

// NewLayout returns where the words are of a queue for n threads with k places
// each that begins at b.
func NewLayout(n, k, b int) Layout {
	return Layout{threads: n, places: k, begin: b}
}

// Head returns the address of the head.
func (l Layout) Head() int { return l.begin + head }

// Tail returns the address of the tail.
func (l Layout) Tail() int { return l.begin + tail }

// Descriptor returns the address of the descriptor of a thread.
func (l Layout) Descriptor(thread int) int { return l.begin + descriptors + thread }

// Next returns the address of next of a node.
func (l Layout) Next(ref uint64) int { return l.field(ref, next) }

// Taker returns the address of the taker of a node.
func (l Layout) Taker(ref uint64) int { return l.field(ref, taker) }

// Value returns the address of the value of a node.
func (l Layout) Value(ref uint64) int { return l.field(ref, value) }

// Mark returns the address of the mark of a node.
func (l Layout) Mark(ref uint64) int { return l.field(ref, mark) }

// Owner returns the thread that owns a node, and whether there is one.
func (l Layout) Owner(ref uint64) (int, bool) {
	i, _ := node.Split(ref)
	return node.Owner(l.threads, l.places, i)
}

// has tells whether a word refers to a node.
func (l Layout) has(ref uint64) bool {
	i, _ := node.Split(ref)
	_, ok := node.At(l.threads, l.places, i, next)
	return ok
}

// field returns the address of a field of a node.
func (l Layout) field(ref uint64, field int) int {
	i, _ := node.Split(ref)
	at, _ := node.At(l.threads, l.places, i, field)
	return l.begin + at
}
