package table

import (
	"roundelay/adder"
	"roundelay/api"
	"roundelay/cons"
	"roundelay/loom"
	"roundelay/maxreg"
	"roundelay/multi"
	"roundelay/pin"
	"roundelay/queue"
	"roundelay/seq"
	"roundelay/snap"
	"roundelay/tally"
	"roundelay/univ"
)

// row is what the table says of the objects of one Kind.
type row struct {
	object func(p, q int) loom.Object // the object, which knows its size, and whether p and q are in range
	kinds  func(p int) int            // the number of its operations
}

// find returns the row of a Kind, if there is one.
func find(kind int) (row, bool) {
	l := rows()
	if kind < 0 || kind >= len(l) {
		return row{}, false
	}
	return l[kind], true
}

// rows returns the table.
func rows() []row {
	return []row{
		api.Cell:  {object: withP(loom.NewCells), kinds: always(4)},
		api.Cons:  {object: plain(cons.New), kinds: always(2)},
		api.Tally: {object: plain(tally.New), kinds: always(2)},
		api.Adder: {object: plain(adder.New), kinds: always(3)},
		api.Max:   {object: withP(maxreg.New), kinds: always(2)},
		api.Snap:  {object: withP(snap.New), kinds: always(2)},
		api.Multi: {object: multi.New, kinds: always(2)},
		api.Univ:  {object: univ.New, kinds: seq.Kinds},
		api.Queue: {object: queue.New, kinds: always(2)},
		api.Pin:   {object: withP(pin.New), kinds: always(2)},
	}
}

// plain makes objects for which neither P nor Q matters.
func plain(object func() loom.Object) func(p, q int) loom.Object {
	return func(_, _ int) loom.Object { return object() }
}

// withP makes objects for which P matters, and Q does not.
func withP(object func(p int) loom.Object) func(p, q int) loom.Object {
	return func(p, _ int) loom.Object { return object(p) }
}

// always is a number of operations that does not depend on P.
func always(count int) func(p int) int {
	return func(int) int { return count }
}
