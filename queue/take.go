package queue

import (
	"roundelay/api"
	"roundelay/desc"
	"roundelay/finish"
	"roundelay/loom"
	"roundelay/node"
)

// directly is what is added to a thread as a taker if it takes without its
// descriptor.
const directly = 33

// take is an operation that takes a value.
type take struct {
	operation
	value uint64 // the one that it takes if it can
	front front
}

// newTake returns the operation of a thread that takes a value.
func newTake(o *object, thread int) *take {
	k := &take{operation: newOperation(o, thread, true)}
	k.next = k.begin
	k.attempt = k.look
	k.end = k.collect
	o.operations[thread] = &k.operation
	return k
}

// begin examines a descriptor.
func (k *take) begin(t loom.Turn) {
	k.try()
	k.examine(t)
}

// look finds the first node, and whether there is one behind it.
func (k *take) look(t loom.Turn) {
	if !k.front.read(t, k.object) {
		return
	}
	switch {
	case k.front.stale:
		k.try()
	case k.front.empty():
		k.refuse(api.ErrEmpty, k.front.observed)
	case k.front.lags():
		k.other = finish.NewTail(k.object.Layout)
		k.try()
	default:
		k.next = k.readValue
	}
}

// readValue reads the value of the node behind the first one.
func (k *take) readValue(t loom.Turn) {
	_, k.value = node.Unvalue(t.Read(k.object.Value(k.front.behind())))
	k.next = k.claim
}

// claim makes the thread the taker of the first node, unless there is one.
func (k *take) claim(t loom.Turn) {
	if k.object.claim(t, k.front.first, k.thread, k.thread+directly) {
		k.respond(api.Answer{Val: k.value})
	} else {
		k.try()
	}
	k.other = finish.NewHead(k.object.Layout)
}

// collect finds out how the operation was completed. Whoever did that may have
// stopped before it moved the head.
func (k *take) collect(t loom.Turn) {
	d := desc.Unpack(t.Read(k.object.Descriptor(k.thread)))
	if d.Load == 0 {
		k.respond(api.Answer{Err: api.ErrEmpty})
	} else {
		k.respond(api.Answer{Val: d.Load - 1})
	}
	k.other = finish.NewHead(k.object.Layout)
}
