package queue

import (
	"roundelay/loom"
)

// machine makes accesses for an operation: it helps a thread, or finishes at an
// end.
type machine interface {
	// Step makes the next access, and tells whether it was the last one.
	Step(t loom.Turn) bool
}

// runner makes accesses of its own, and steps another machine in between.
type runner struct {
	next  func(t loom.Turn) // makes the next access of its own; nil after the last one
	other machine           // is stepped before that; nil as long as there is none
}

// Step makes the next access, and tells whether it was the last one.
func (r *runner) Step(t loom.Turn) bool {
	if r.other == nil {
		r.next(t)
	} else if r.other.Step(t) {
		r.other = nil
	}
	return r.other == nil && r.next == nil
}
