package maxreg

import (
	"slices"

	"roundelay/loom"
)

// node is a switch of a tree.
type node struct {
	tree   *tree
	number int
}

// at returns the address of the switch.
func (s node) at() int {
	return s.tree.begin + s.number - 1
}

// isOn reads whether the switch is set.
func (s node) isOn(t loom.Turn) bool {
	return t.Read(s.at()) == 1
}

// turnOn sets the switch, and records the tick if it was not set before.
func (s node) turnOn(t loom.Turn) {
	t.Write(s.at(), 1)
	if s.setTick() == 0 {
		s.tree.set[s.number] = t.Tick
	}
}

// setTick returns the tick at which the switch was set, 0 if it is not set.
func (s node) setTick() int {
	return s.tree.set[s.number]
}

// child returns the switch that is next to the right, or to the left.
func (s node) child(right bool) node {
	if right {
		return node{tree: s.tree, number: 2*s.number + 1}
	}
	return node{tree: s.tree, number: 2 * s.number}
}

// fork is a switch at which an operation went left or right.
type fork struct {
	node
	right bool
}

// way is the way of an operation down the tree.
type way struct {
	node          // the one that it has reached
	passed []fork // those above it
	ended  bool
	last   int // the tick of the last read, or of the first step if nothing is read
}

// begin records the tick of the first step.
func (w *way) begin(t loom.Turn) {
	if w.last == 0 {
		w.last = t.Tick
	}
}

// look reads the switch that the way has reached.
func (w *way) look(t loom.Turn) bool {
	w.last = t.Tick
	return w.isOn(t)
}

// pass goes right or left.
func (w *way) pass(right bool) {
	w.passed = append(w.passed, fork{node: w.node, right: right})
	w.node = w.child(right)
	w.ended = len(w.passed) == w.tree.bits
}

// Key returns the key of an operation that has taken effect: its way has ended,
// and every switch at which it went right is set. Both hold for each read and
// each write that responds, and may hold for a write before.
func (w *way) Key() []int {
	if !w.ended {
		return nil
	}
	key := []int{2 * w.last}
	for _, f := range slices.Backward(w.passed) {
		tick := f.setTick()
		if f.right && tick == 0 {
			return nil
		}
		key = f.order(key, tick)
	}
	return key
}

// order returns the key of an operation at a fork, given its key below the
// fork: what goes left is before the switch is set, and what goes right after it.
func (f fork) order(key []int, tick int) []int {
	switch {
	case f.right && key[0] <= 2*tick:
		return slices.Insert(key, 0, 2*tick)
	case !f.right && tick != 0 && key[0] > 2*tick:
		return slices.Insert(key, 0, 2*tick-1)
	}
	return key
}
