package queue

import (
	"roundelay/desc"
	"roundelay/node"
)

// All that words are composed of is in range here, so that there are no errors:
// a call allocates at most one node, and announces itself at most once, so that
// the versions and phases of a play are below the number of its calls, plus 2.

// reference returns the reference to the node i with the version v.
func reference(i int, v uint64) uint64 {
	ref, _ := node.Ref(i, v)
	return ref
}

// stamped returns the word of a number with the version v.
func stamped(v, number uint64) uint64 {
	w, _ := node.Stamp(v, number)
	return w
}

// valued returns the word of the value x with the version v.
func valued(v, x uint64) uint64 {
	w, _ := node.Value(v, x)
	return w
}

// packed returns the word of a descriptor.
func packed(d desc.Desc) uint64 {
	w, _ := desc.Pack(d)
	return w
}

// finished returns the word of a descriptor that is completed without a node.
func finished(w uint64) uint64 {
	done, _ := desc.Finish(w, 0)
	return done
}

// loaded returns the word of a descriptor with a reference as its load.
func loaded(w, ref uint64) uint64 {
	fresh, _ := desc.Load(w, ref)
	return fresh
}

// allocated returns the mark of a node that is allocated with the version v.
func allocated(v uint64) uint64 {
	return 2*v + 1
}

// isAllocated tells whether a node with this mark is allocated.
func isAllocated(mark uint64) bool {
	return mark%2 == 1
}
