package queue

import (
	"roundelay/api"
	"roundelay/desc"
	"roundelay/loom"
)

// operation is what putting and taking have in common: it examines a
// descriptor, tries a few times to complete directly, and then announces itself.
type operation struct {
	runner
	object    *object
	thread    int
	attempt   func(t loom.Turn) // the first access of an attempt
	end       func(t loom.Turn) // what follows when all threads were helped, nil if nothing does
	attempts  int               // how many of them are left
	announced desc.Desc         // what the thread announces
	reached   int               // the thread whose descriptor is the next one to be read
	answer    api.Answer
	effect    int // the tick at which it takes effect, 0 as long as it does not
}

// newOperation returns what is common of an operation of a thread.
func newOperation(o *object, thread int, take bool) operation {
	return operation{
		object:    o,
		thread:    thread,
		attempts:  o.attempts,
		announced: desc.Desc{Pending: true, Take: take},
	}
}

// Step makes the next access.
func (o *operation) Step(t loom.Turn) (api.Answer, bool) {
	if !o.runner.Step(t) {
		return api.Answer{}, false
	}
	return o.answer, true
}

// Key returns the key of an operation that took effect, whoever made the access
// at which it did.
func (o *operation) Key() []int {
	if o.effect == 0 {
		return nil
	}
	return []int{2 * o.effect}
}

// takeEffect records the tick at which the operation takes effect.
func (o *operation) takeEffect(tick int) {
	o.effect = tick
}

// examine helps a thread, another one in each operation, if that waits for
// help: so each thread is helped after some time, even if it makes no steps.
func (o *operation) examine(t loom.Turn) {
	thread := o.object.examine(o.thread)
	d := desc.Unpack(t.Read(o.object.Descriptor(thread)))
	if d.Pending {
		o.other = o.object.help(thread, d)
	}
}

// try goes on to the next attempt, or to the announcement if there is none left.
func (o *operation) try() {
	if o.attempts == 0 {
		o.next = o.survey
		return
	}
	o.attempts--
	o.next = o.attempt
}

// respond ends the operation with an answer, as soon as no other machine is to
// be stepped.
func (o *operation) respond(a api.Answer) {
	o.answer = a
	o.next = nil
}

// refuse ends the operation with an error because of what was seen at a tick.
func (o *operation) refuse(e api.Errno, tick int) {
	o.takeEffect(tick)
	o.respond(api.Answer{Err: e})
}

// survey reads the descriptor of one thread after the other, to get a phase
// that is above all others.
func (o *operation) survey(t loom.Turn) {
	d := desc.Unpack(t.Read(o.object.Descriptor(o.reached)))
	o.announced.Phase = max(o.announced.Phase, d.Phase+1)
	o.reached++
	if o.reached == o.object.threads {
		o.reached = 0
		o.next = o.announce
	}
}

// announce writes the descriptor of the thread.
func (o *operation) announce(t loom.Turn) {
	t.Write(o.object.Descriptor(o.thread), packed(o.announced))
	o.next = o.assist
}

// assist helps one thread after the other, its own among them, if its operation
// is not newer than this one.
func (o *operation) assist(t loom.Turn) {
	thread := o.reached
	d := desc.Unpack(t.Read(o.object.Descriptor(thread)))
	o.reached++
	if o.reached == o.object.threads {
		o.next = o.end
	}
	if d.Pending && d.Phase <= o.announced.Phase {
		o.other = o.object.help(thread, d)
	}
}
