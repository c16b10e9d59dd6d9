package univ

import (
	"roundelay/api"
	"roundelay/seq"
)

// replica is the private data of a thread: what it knows of the object.
type replica struct {
	typ       int
	announced int         // how many operations the thread announced
	applied   list[entry] // the entries of the log as far as it has gone through them
	state     []uint64    // the one after these
}

// newReplica returns the private data of a thread that has done nothing.
func newReplica(typ int) *replica {
	return &replica{typ: typ, state: seq.New(typ)}
}

// apply executes the operation of the next entry of the log.
func (r *replica) apply(e entry) api.Answer {
	state, answer := seq.Apply(r.typ, r.state, e.kind(), e.arg())
	r.state = state
	r.applied.add(e)
	return answer
}

// pending tells whether the operation that a thread has announced is still to
// be put into the log, as far as that is known. The last operation of a thread
// in the log has the greatest number.
func (r *replica) pending(e entry, thread int) bool {
	last := r.applied.last(func(w entry) bool { return w.thread() == thread })
	return e != 0 && e.number() > last.number()
}
