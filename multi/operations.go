package multi

import (
	"roundelay/api"
	"roundelay/loom"
)

// update is an operation that puts a record with a value, and with the numbers
// of a scan, into the cell of a component.
type update struct {
	scan
	thread    int
	component int
	record    int // its address
	value     uint64
	written   int // how many words of the record have been written
}

// Step makes an access of the scan, or writes a word.
func (o *update) Step(t loom.Turn) (api.Answer, bool) {
	switch {
	case !o.ended():
		o.advance(t)
	case o.written < recordSize(o.snapshot.components):
		t.Write(o.record+o.written, o.word())
		o.written++
	default:
		o.snapshot.publish(t, o.thread, o.component, o.record, o.moment)
		return api.Answer{}, true
	}
	return api.Answer{}, false
}

// word returns the word of the record that is written next.
func (o *update) word() uint64 {
	if o.written == 0 {
		return o.value
	}
	return o.numbers[o.written-1]
}

// read is an operation that returns the numbers of a scan.
type read struct {
	scan
	key []int
}

// Step makes an access of the scan.
func (o *read) Step(t loom.Turn) (api.Answer, bool) {
	o.advance(t)
	if !o.ended() {
		return api.Answer{}, false
	}
	o.key = []int{2 * o.moment, 2 * t.Tick}
	return api.Answer{List: o.numbers}, true
}

// Key returns the key of a read that has responded.
func (o *read) Key() []int {
	return o.key
}
