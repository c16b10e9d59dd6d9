package queue

import (
	"roundelay/desc"
	"roundelay/finish"
	"roundelay/loom"
)

// help returns the machine that helps a thread whose descriptor is pending.
func (o *object) help(thread int, d desc.Desc) machine {
	h := helping{object: o, thread: thread, phase: d.Phase}
	if d.Take {
		return newTakeHelp(h)
	}
	return newPutHelp(h)
}

// helping is what helping to put and helping to take have in common.
type helping struct {
	runner
	object     *object
	thread     int    // the one that is helped
	phase      uint64 // that of the operation with which it is helped
	descriptor uint64 // of the thread, as it was last seen
}

// waits reads the descriptor, and tells whether the operation is still to be
// completed.
func (h *helping) waits(t loom.Turn, take bool) bool {
	h.descriptor = t.Read(h.object.Descriptor(h.thread))
	return desc.Waits(h.descriptor, h.phase, take)
}

// load returns that of the descriptor.
func (h *helping) load() uint64 {
	return desc.Unpack(h.descriptor).Load
}

// putHelp helps a thread to put.
type putHelp struct {
	helping
	back back
}

// newPutHelp returns the machine that helps a thread to put.
func newPutHelp(h helping) machine {
	p := &putHelp{helping: h}
	p.next = p.begin
	return p
}

// begin finds out whether there is something to help.
func (p *putHelp) begin(t loom.Turn) {
	p.next = nil
	if p.waits(t, false) {
		p.next = p.look
	}
}

// look finds the last node.
func (p *putHelp) look(t loom.Turn) {
	if !p.back.read(t, p.object) {
		return
	}
	switch {
	case p.back.stale():
		p.next = p.begin
	case p.back.lags():
		p.other = finish.NewTail(p.object.Layout)
		p.next = p.begin
	default:
		p.next = p.confirm
	}
}

// confirm finds out whether the operation is still to be completed, now that
// the last node is known: if so, its own node is not in the queue before that.
func (p *putHelp) confirm(t loom.Turn) {
	p.next = nil
	if p.waits(t, false) {
		p.next = p.insert
	}
}

// insert puts the node of the thread behind the last one.
func (p *putHelp) insert(t loom.Turn) {
	p.next = p.begin
	if p.object.insert(t, p.back, p.load()) {
		p.other = finish.NewTail(p.object.Layout)
		p.next = nil
	}
}

// takeHelp helps a thread to take.
type takeHelp struct {
	helping
	front front
}

// newTakeHelp returns the machine that helps a thread to take.
func newTakeHelp(h helping) machine {
	k := &takeHelp{helping: h}
	k.next = k.begin
	return k
}

// begin finds out whether there is something to help.
func (k *takeHelp) begin(t loom.Turn) {
	k.next = nil
	if k.waits(t, true) {
		k.next = k.look
	}
}

// look finds the first node, and what is to be done with it.
func (k *takeHelp) look(t loom.Turn) {
	if !k.front.read(t, k.object) {
		return
	}
	switch {
	case k.front.stale:
		k.next = k.begin
	case k.front.empty():
		k.next = k.refuse
	case k.front.lags():
		k.other = finish.NewTail(k.object.Layout)
		k.next = k.begin
	case k.load() != k.front.first:
		k.next = k.agree
	default:
		k.next = k.claim
	}
}

// refuse completes the operation as one that found nothing.
func (k *takeHelp) refuse(t loom.Turn) {
	k.next = k.begin
	if k.swap(t, finished(k.descriptor)) {
		k.object.operations[k.thread].takeEffect(k.front.observed)
		k.next = nil
	}
}

// agree makes the first node the load of the descriptor, so that all that help
// take from the same node.
func (k *takeHelp) agree(t loom.Turn) {
	k.next = k.begin
	if k.swap(t, loaded(k.descriptor, k.front.first)) {
		k.next = k.claim
	}
}

// swap changes the descriptor, and tells whether nobody has done so before.
func (k *takeHelp) swap(t loom.Turn, fresh uint64) bool {
	return t.Swap(k.object.Descriptor(k.thread), k.descriptor, fresh)
}

// claim makes the thread the taker of the first node, unless there is one.
func (k *takeHelp) claim(t loom.Turn) {
	k.object.claim(t, k.front.first, k.thread, k.thread+1)
	k.other = finish.NewHead(k.object.Layout)
	k.next = k.begin
}
