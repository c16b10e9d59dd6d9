package seq

import (
	"slices"

	"roundelay/api"
)

const (
	maxElements = 8       // how many elements a stack or a queue can have
	setLimit    = 64      // the least number that cannot be in a set
	swapUnit    = 1 << 16 // what a swapper expects is multiplied by this in its argument
	tableSize   = 8       // how many elements a table has
	tableUnit   = 1 << 24 // the index is multiplied by this in the argument that sets an element
)

// look returns the number that is the state.
func look(state []uint64, _ uint64) ([]uint64, uint64, api.Errno) {
	return state, state[0], api.OK
}

// update returns the effect that returns the number that is the state, and then
// makes another one of it.
func update(next func(was, arg uint64) uint64) effect {
	return func(state []uint64, arg uint64) ([]uint64, uint64, api.Errno) {
		was := state[0]
		state[0] = next(was, arg)
		return state, was, api.OK
	}
}

// replaced is what a register becomes.
func replaced(_, arg uint64) uint64 {
	return arg
}

// increased is what a counter becomes.
func increased(was, arg uint64) uint64 {
	return was + arg
}

// raised is what a maximum becomes.
func raised(was, arg uint64) uint64 {
	return max(was, arg)
}

// add puts an element behind the last one.
func add(state []uint64, arg uint64) ([]uint64, uint64, api.Errno) {
	if len(state) == maxElements {
		return state, 0, api.ErrFull
	}
	return append(state, arg), 0, api.OK
}

// removeLast takes the element that was added last.
func removeLast(state []uint64, arg uint64) ([]uint64, uint64, api.Errno) {
	_, val, e := showLast(state, arg)
	if e != api.OK {
		return state, 0, e
	}
	return state[:len(state)-1], val, api.OK
}

// showLast returns the element that was added last.
func showLast(state []uint64, _ uint64) ([]uint64, uint64, api.Errno) {
	if len(state) == 0 {
		return state, 0, api.ErrEmpty
	}
	return state, state[len(state)-1], api.OK
}

// removeFirst takes the element that was added first.
func removeFirst(state []uint64, arg uint64) ([]uint64, uint64, api.Errno) {
	_, val, e := showFirst(state, arg)
	if e != api.OK {
		return state, 0, e
	}
	return slices.Delete(state, 0, 1), val, api.OK
}

// showFirst returns the element that was added first.
func showFirst(state []uint64, _ uint64) ([]uint64, uint64, api.Errno) {
	if len(state) == 0 {
		return state, 0, api.ErrEmpty
	}
	return state, state[0], api.OK
}

// has tells whether a number is in the set.
func has(state []uint64, arg uint64) ([]uint64, uint64, api.Errno) {
	if arg >= setLimit {
		return state, 0, api.ErrRange
	}
	return state, state[0] >> arg & 1, api.OK
}

// include puts a number into the set, and tells whether it was not in it.
func include(state []uint64, arg uint64) ([]uint64, uint64, api.Errno) {
	_, was, e := has(state, arg)
	if e != api.OK {
		return state, 0, e
	}
	state[0] |= 1 << arg
	return state, 1 - was, api.OK
}

// exclude removes a number from the set, and tells whether it was in it.
func exclude(state []uint64, arg uint64) ([]uint64, uint64, api.Errno) {
	_, was, e := has(state, arg)
	if e != api.OK {
		return state, 0, e
	}
	state[0] &^= 1 << arg
	return state, was, api.OK
}

// swap sets the number that is the state if it is what is expected, and tells
// whether it was.
func swap(state []uint64, arg uint64) ([]uint64, uint64, api.Errno) {
	if state[0] != arg/swapUnit%swapUnit {
		return state, 0, api.OK
	}
	state[0] = arg % swapUnit
	return state, 1, api.OK
}

// lookUp returns an element of the table.
func lookUp(state []uint64, arg uint64) ([]uint64, uint64, api.Errno) {
	if arg >= tableSize {
		return state, 0, api.ErrRange
	}
	return state, state[arg], api.OK
}

// store sets an element of the table, and returns what it was.
func store(state []uint64, arg uint64) ([]uint64, uint64, api.Errno) {
	index := arg / tableUnit
	_, was, e := lookUp(state, index)
	if e != api.OK {
		return state, 0, e
	}
	state[index] = arg % tableUnit
	return state, was, api.OK
}
