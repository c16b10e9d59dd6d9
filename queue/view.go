package queue

import (
	"roundelay/loom"
	"roundelay/node"
)

// back is what a thread sees at the tail.
type back struct {
	made int    // how many of its accesses
	last uint64 // the reference to the node at the tail
	w    uint64 // next of that node
}

// read makes the next access, and tells whether all of them were made; then it
// begins anew.
func (b *back) read(t loom.Turn, o *object) bool {
	const all = 2
	switch b.made {
	case 0:
		b.last = t.Read(o.Tail())
	case 1:
		b.w = t.Read(o.Next(b.last))
	}
	b.made = (b.made + 1) % all
	return b.made == 0
}

// stale tells whether the node has been allocated anew since the tail was read.
func (b *back) stale() bool {
	_, v := node.Split(b.last)
	version, _ := node.Unstamp(b.w)
	return version != v
}

// lags tells whether the tail is still to be moved to a node behind it.
func (b *back) lags() bool {
	_, number := node.Unstamp(b.w)
	return number != 0
}

// front is what a thread sees at the head.
type front struct {
	made     int    // how many of its accesses
	first    uint64 // the reference to the node at the head, whose value was taken before
	last     uint64 // that to the node at the tail
	w        uint64 // next of the node at the head
	observed int    // the tick at which this was read
	stale    bool   // the head was moved meanwhile, so that what was read does not belong together
}

// read makes the next access, and tells whether all of them were made; then it
// begins anew.
func (f *front) read(t loom.Turn, o *object) bool {
	const all = 4
	switch f.made {
	case 0:
		f.first = t.Read(o.Head())
	case 1:
		f.last = t.Read(o.Tail())
	case 2:
		f.w = t.Read(o.Next(f.first))
		f.observed = t.Tick
	case 3:
		f.stale = t.Read(o.Head()) != f.first
	}
	f.made = (f.made + 1) % all
	return f.made == 0
}

// empty tells whether there is no node behind the one at the head.
func (f *front) empty() bool {
	return f.behind() == 0
}

// lags tells whether the tail is still to be moved from the node at the head.
func (f *front) lags() bool {
	return f.first == f.last
}

// behind returns the reference to the node behind the one at the head.
func (f *front) behind() uint64 {
	_, ref := node.Unstamp(f.w)
	return ref
}
