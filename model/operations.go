package model

import (
	"slices"

	"roundelay/api"
	"roundelay/seq"
	"roundelay/table"
)

const (
	numberLimit = 1 << 32 // the least number that a cons and a universal object do not accept
	valueLimit  = 1 << 24 // the least value that a queue does not accept
)

// change executes an operation on a model that nobody else has. It returns what
// has become of the model, and the answer.
type change func(m []uint64) ([]uint64, api.Answer)

// operation returns the change that a call makes to the model of a valid object.
func operation(n int, s api.Spec, c api.Call) change {
	if c.Kind < 0 || c.Kind >= table.Kinds(s) {
		return fail(api.ErrKind)
	}
	switch s.Kind {
	case api.Cell:
		return access(s.P, c)
	case api.Cons:
		return agree(c)
	case api.Tally:
		return count(c)
	case api.Adder:
		return sum(c)
	case api.Max:
		return raise(s.P, c)
	case api.Snap:
		return share(n, s.P, c)
	case api.Multi:
		return shareAny(s.P, s.Q, c)
	case api.Univ:
		return perform(s.P, s.Q, c)
	case api.Queue:
		return pass(c)
	default:
		return publish(s.P, c)
	}
}

// fail is an operation that returns an error, and changes nothing.
func fail(e api.Errno) change {
	return func(m []uint64) ([]uint64, api.Answer) {
		return m, api.Answer{Err: e}
	}
}

// show is an operation that returns a word.
func show(at uint64) change {
	return func(m []uint64) ([]uint64, api.Answer) {
		return m, api.Answer{Val: m[at]}
	}
}

// add is an operation that adds to a word, and returns what it was.
func add(at, d uint64) change {
	return func(m []uint64) ([]uint64, api.Answer) {
		was := m[at]
		m[at] += d
		return m, api.Answer{Val: was}
	}
}

// list is an operation that returns the first words.
func list(words int) change {
	return func(m []uint64) ([]uint64, api.Answer) {
		return m, api.Answer{List: slices.Clone(m[:words])}
	}
}

// access is an operation of cells.
func access(size int, c api.Call) change {
	if c.A >= uint64(size) {
		return fail(api.ErrRange)
	}
	switch c.Kind {
	case 0:
		return show(c.A)
	case 1:
		return func(m []uint64) ([]uint64, api.Answer) {
			m[c.A] = c.B
			return m, api.Answer{}
		}
	case 2:
		return func(m []uint64) ([]uint64, api.Answer) {
			if m[c.A] != c.B {
				return m, api.Answer{}
			}
			m[c.A] = c.C
			return m, api.Answer{Val: 1}
		}
	default:
		return add(c.A, c.B)
	}
}

// agree is an operation of a cons.
func agree(c api.Call) change {
	if c.Kind == 0 && c.A >= numberLimit {
		return fail(api.ErrRange)
	}
	return func(m []uint64) ([]uint64, api.Answer) {
		if m[0] == 0 && c.Kind == 1 {
			return m, api.Answer{Err: api.ErrEmpty}
		}
		if m[0] == 0 {
			m[0] = c.A + 1
		}
		return m, api.Answer{Val: m[0] - 1}
	}
}

// count is an operation of a tally.
func count(c api.Call) change {
	if c.Kind == 1 {
		return show(0)
	}
	return func(m []uint64) ([]uint64, api.Answer) {
		m[0]++
		return m, api.Answer{}
	}
}

// sum is an operation of an adder.
func sum(c api.Call) change {
	switch c.Kind {
	case 0:
		return add(0, c.A)
	case 1:
		return show(0)
	default:
		return add(0, 1)
	}
}

// raise is an operation of a max register.
func raise(bits int, c api.Call) change {
	if c.Kind == 1 {
		return show(0)
	}
	if c.A >= 1<<bits {
		return fail(api.ErrRange)
	}
	return func(m []uint64) ([]uint64, api.Answer) {
		m[0] = max(m[0], c.A)
		return m, api.Answer{}
	}
}

// share is an operation of a snapshot for n threads.
func share(n, records int, c api.Call) change {
	if c.Kind == 1 {
		return list(n)
	}
	return update(n, records, c.Thread, c.Thread, c.A)
}

// shareAny is an operation of a multi-writer snapshot.
func shareAny(components, records int, c api.Call) change {
	if c.Kind == 1 {
		return list(components)
	}
	if c.A >= uint64(components) {
		return fail(api.ErrRange)
	}
	return update(components, records, c.Thread, int(c.A), c.B)
}

// update sets a value of a snapshot if its thread has not used all its records.
// The numbers of the updates are behind the values.
func update(values, records, thread, at int, v uint64) change {
	return func(m []uint64) ([]uint64, api.Answer) {
		used := &m[values+thread]
		if *used >= uint64(records) {
			return m, api.Answer{Err: api.ErrFull}
		}
		*used++
		m[at] = v
		return m, api.Answer{}
	}
}

// perform is an operation of a universal object. Whatever gets an entry counts,
// even if the type has an error for it.
func perform(typ, entries int, c api.Call) change {
	if c.A >= numberLimit {
		return fail(api.ErrRange)
	}
	return func(m []uint64) ([]uint64, api.Answer) {
		if m[0] >= uint64(entries) {
			return m, api.Answer{Err: api.ErrFull}
		}
		state, answer := seq.Apply(typ, m[1:], c.Kind, c.A)
		return append([]uint64{m[0] + 1}, state...), answer
	}
}

// pass is an operation of a queue.
func pass(c api.Call) change {
	if c.Kind == 0 && c.A >= valueLimit {
		return fail(api.ErrRange)
	}
	return func(m []uint64) ([]uint64, api.Answer) {
		if c.Kind == 0 {
			return append(m, uint64(c.Thread), c.A), api.Answer{}
		}
		if len(m) == 0 {
			return m, api.Answer{Err: api.ErrEmpty}
		}
		return m[2:], api.Answer{Val: m[1]}
	}
}

// publish is an operation of a pin register.
func publish(words int, c api.Call) change {
	if c.Kind == 1 {
		return list(words)
	}
	if c.Thread != 0 {
		return fail(api.ErrRole)
	}
	return func(m []uint64) ([]uint64, api.Answer) {
		for i := range m {
			m[i] = c.A + uint64(i)
		}
		return m, api.Answer{}
	}
}
