package queue

import (
	"roundelay/api"
	"roundelay/finish"
	"roundelay/loom"
)

// put is an operation that puts a value.
type put struct {
	operation
	value   uint64
	place   int    // the number of its node among the places of its thread
	looked  int    // the tick at which the mark of the first place was read
	version uint64 // that of its node, 0 as long as it has none
	back    back
}

// newPut returns the operation of a thread that puts a value.
func newPut(o *object, thread int, value uint64) *put {
	p := &put{operation: newOperation(o, thread, false), value: value}
	p.next = p.begin
	p.attempt = p.look
	o.operations[thread] = &p.operation
	return p
}

// node returns the reference to the node, or to the place that it may become.
func (p *put) node() uint64 {
	return reference(emptyNode+1+p.thread*p.object.places+p.place, p.version)
}

// begin examines a descriptor.
func (p *put) begin(t loom.Turn) {
	p.next = p.readMark
	p.examine(t)
}

// readMark finds out whether a place is free.
func (p *put) readMark(t loom.Turn) {
	x := t.Read(p.object.Mark(p.node()))
	if p.place == 0 {
		p.looked = t.Tick
	}
	if !isAllocated(x) {
		p.version = x/2 + 1
		p.next = p.writeMark
		return
	}
	p.place++
	if p.place == p.object.places {
		p.refuse(api.ErrFull, p.looked)
	}
}

// writeMark allocates the node.
func (p *put) writeMark(t loom.Turn) {
	t.Write(p.object.Mark(p.node()), allocated(p.version))
	p.next = p.writeValue
}

// writeValue writes what is put.
func (p *put) writeValue(t loom.Turn) {
	t.Write(p.object.Value(p.node()), valued(p.version, p.value))
	p.next = p.writeNext
}

// writeNext writes that there is no node behind the node.
func (p *put) writeNext(t loom.Turn) {
	t.Write(p.object.Next(p.node()), stamped(p.version, 0))
	p.next = p.writeTaker
}

// writeTaker writes that the node has no taker; then it can be inserted.
func (p *put) writeTaker(t loom.Turn) {
	t.Write(p.object.Taker(p.node()), stamped(p.version, 0))
	p.announced.Load = p.node()
	p.try()
}

// look finds the last node.
func (p *put) look(t loom.Turn) {
	if !p.back.read(t, p.object) {
		return
	}
	switch {
	case p.back.stale():
		p.try()
	case p.back.lags():
		p.other = finish.NewTail(p.object.Layout)
		p.try()
	default:
		p.next = p.insert
	}
}

// insert puts the node behind the last one.
func (p *put) insert(t loom.Turn) {
	if p.object.insert(t, p.back, p.node()) {
		p.respond(api.Answer{})
	} else {
		p.try()
	}
	p.other = finish.NewTail(p.object.Layout)
}
