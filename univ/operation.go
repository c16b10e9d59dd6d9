package univ

import (
	"roundelay/api"
	"roundelay/loom"
)

// stage tells which access an operation makes in its next step.
type stage int

const (
	announcing stage = iota
	looking          // whether the next entry of the log is free
	helping          // with the operation of the thread whose turn it is
	proposing
	learning // what another thread has put into the entry
)

// operation is an operation that goes through the log until it has found
// itself there; where the log ends, it puts operations into it.
type operation struct {
	object   *object
	replica  *replica
	thread   int
	own      entry
	stage    stage
	proposed entry
	refused  int // the tick at which it found that the log is full, 0 if it has not
}

// Step makes the next access.
func (o *operation) Step(t loom.Turn) (api.Answer, bool) {
	k := o.replica.applied.size()
	switch o.stage {
	case announcing:
		t.Write(o.object.announcement(o.thread), uint64(o.own))
		return o.proceed(t)
	case looking:
		found := entry(t.Read(o.object.place(k)))
		if found != 0 {
			return o.apply(t, found)
		}
		o.stage = helping
	case helping:
		thread := o.object.helped(k)
		o.choose(entry(t.Read(o.object.announcement(thread))), thread)
		o.stage = proposing
	case proposing:
		if o.object.enter(t, k, o.proposed) {
			return o.apply(t, o.proposed)
		}
		o.stage = learning
	case learning:
		return o.apply(t, entry(t.Read(o.object.place(k))))
	}
	return api.Answer{}, false
}

// choose determines what is proposed: what another thread has announced, if
// that is still to be done, so that each thread gets an entry when it is its
// turn, however slow it is.
func (o *operation) choose(announced entry, thread int) {
	o.proposed = o.own
	if o.replica.pending(announced, thread) {
		o.proposed = announced
	}
}

// apply executes what is in the next entry of the log, and responds if that is
// the operation itself.
func (o *operation) apply(t loom.Turn, e entry) (api.Answer, bool) {
	answer := o.replica.apply(e)
	if e == o.own {
		return answer, true
	}
	return o.proceed(t)
}

// proceed goes on to the next entry of the log, if there is one.
func (o *operation) proceed(t loom.Turn) (api.Answer, bool) {
	if o.replica.applied.size() == o.object.capacity {
		o.refused = t.Tick
		return api.Answer{Err: api.ErrFull}, true
	}
	o.stage = looking
	return api.Answer{}, false
}

// Key returns the key of an operation that is in the log, whoever put it there,
// or that found no place in it.
func (o *operation) Key() []int {
	if o.refused != 0 {
		return []int{2 * o.refused, 1}
	}
	if tick, ok := o.object.entered[o.own]; ok {
		return []int{2 * tick}
	}
	return nil
}
