package model_test

import (
	"math"
	"slices"
	"testing"

	"roundelay/api"
	"roundelay/model"
	"roundelay/table"
	"roundelay/trial"
)

const top = math.MaxUint64

// each returns objects of each Kind, with the least and the greatest P and Q.
func each() []api.Spec {
	l := []api.Spec{
		{Kind: api.Cell, P: 1}, {Kind: api.Cell, P: 64, Q: -1}, {Kind: api.Cons}, {Kind: api.Cons, P: -1, Q: 99},
		{Kind: api.Tally}, {Kind: api.Tally, P: math.MaxInt}, {Kind: api.Adder}, {Kind: api.Adder, Q: math.MinInt},
		{Kind: api.Max, P: 1}, {Kind: api.Max, P: 12}, {Kind: api.Snap, P: 1}, {Kind: api.Snap, P: 64},
		{Kind: api.Multi, P: 1, Q: 1}, {Kind: api.Multi, P: 16, Q: 64}, {Kind: api.Multi, P: 3, Q: 2},
		{Kind: api.Queue, P: 1}, {Kind: api.Queue, P: 32, Q: 3}, {Kind: api.Pin, P: 1}, {Kind: api.Pin, P: 8},
	}
	for typ := range 8 {
		l = append(l, api.Spec{Kind: api.Univ, P: typ, Q: 1}, api.Spec{Kind: api.Univ, P: typ, Q: 256})
	}
	return l
}

// wrongSpecs are objects that do not exist, and their errors.
func wrongSpecs() map[api.Spec]api.Errno {
	return map[api.Spec]api.Errno{
		{Kind: -1, P: 1, Q: 1}:               api.ErrKind,
		{Kind: 10, P: 1, Q: 1}:               api.ErrKind,
		{Kind: math.MinInt, P: 1, Q: 1}:      api.ErrKind,
		{Kind: math.MaxInt}:                  api.ErrKind,
		{Kind: api.Cell}:                     api.ErrRange,
		{Kind: api.Cell, P: 65}:              api.ErrRange,
		{Kind: api.Cell, P: math.MaxInt}:     api.ErrRange,
		{Kind: api.Max, P: 13}:               api.ErrRange,
		{Kind: api.Max, P: math.MinInt}:      api.ErrRange,
		{Kind: api.Snap}:                     api.ErrRange,
		{Kind: api.Snap, P: 1 << 62}:         api.ErrRange,
		{Kind: api.Multi, P: 17, Q: 1}:       api.ErrRange,
		{Kind: api.Multi, P: 1}:              api.ErrRange,
		{Kind: api.Univ, P: 8, Q: 1}:         api.ErrRange,
		{Kind: api.Univ, P: -1, Q: 1}:        api.ErrRange,
		{Kind: api.Univ, P: 0, Q: 257}:       api.ErrRange,
		{Kind: api.Univ}:                     api.ErrRange,
		{Kind: api.Queue}:                    api.ErrRange,
		{Kind: api.Queue, P: 1, Q: 4}:        api.ErrRange,
		{Kind: api.Queue, P: 1, Q: -1}:       api.ErrRange,
		{Kind: api.Pin, P: 9}:                api.ErrRange,
		{Kind: api.Pin, P: -math.MaxInt - 1}: api.ErrRange,
	}
}

// lengths returns the least and the greatest number of words of the models of an
// object.
func lengths(n int, s api.Spec) (least, most int) {
	exact := 1
	switch s.Kind {
	case api.Cell, api.Pin:
		exact = s.P
	case api.Snap:
		exact = 2 * n
	case api.Multi:
		exact = s.P + n
	case api.Univ:
		switch s.P {
		case 2, 3:
			return 1, 9
		case 7:
			return 9, 9
		}
		return 2, 2
	case api.Queue:
		return 0, math.MaxInt
	}
	return exact, exact
}

// noThreads are numbers of threads that no play has.
func noThreads() []int {
	return []int{math.MinInt, -1, 0, 17, math.MaxInt}
}

// 27.1: initially, all words are 0, and there are no more of them than there must
// be; each model is new memory (R4).
func TestNew(t *testing.T) {
	for n := 1; n <= api.MaxThreads; n++ {
		for _, s := range each() {
			least, _ := lengths(n, s)
			for range 2 {
				m, e := model.New(n, s)
				if e != api.OK || !slices.Equal(m, make([]uint64, least)) || !model.Right(n, s, m) {
					t.Errorf("New(%d, %v): %v, %v; want %d words", n, s, m, e, least)
				}
				for i := range m {
					m[i] = 9
				}
			}
		}
	}
}

// 27.1: the errors of Size of table: those of the threads first.
func TestNewErrors(t *testing.T) {
	for s, want := range wrongSpecs() {
		for n := 1; n <= api.MaxThreads; n += 5 {
			if m, e := model.New(n, s); e != want || len(m) != 0 {
				t.Errorf("New(%d, %v): %v, %v; want %v", n, s, m, e, want)
			}
		}
		for _, n := range noThreads() {
			if m, e := model.New(n, s); e != api.ErrArg || len(m) != 0 {
				t.Errorf("New(%d, %v): %v, %v", n, s, m, e)
			}
		}
	}
	for _, s := range each() {
		for _, n := range noThreads() {
			if m, e := model.New(n, s); e != api.ErrArg || len(m) != 0 {
				t.Errorf("New(%d, %v): %v, %v", n, s, m, e)
			}
		}
	}
}

// 27.1: a state has as many words as its object says, and these may be any.
func TestRight(t *testing.T) {
	for n := 1; n <= api.MaxThreads; n += 3 {
		for _, s := range each() {
			least, most := lengths(n, s)
			for length := range 140 {
				want := length >= least && length <= most
				if s.Kind == api.Queue {
					want = length%2 == 0
				}
				for _, word := range []uint64{0, 1, 1 << 24, 1 << 32, 1 << 63, top} {
					state := slices.Repeat([]uint64{word}, length)
					if model.Right(n, s, state) != want {
						t.Errorf("Right(%d, %v, %v) is not %v", n, s, state, want)
					}
				}
			}
		}
	}
	if !model.Right(1, api.Spec{Kind: api.Queue, P: 1}, nil) || model.Right(1, api.Spec{Kind: api.Univ, P: 2, Q: 1}, nil) {
		t.Error("no words")
	}
}

// 27.1: what is no object has no state.
func TestRightErrors(t *testing.T) {
	for length := range 20 {
		state := make([]uint64, length)
		for s := range wrongSpecs() {
			if model.Right(2, s, state) {
				t.Errorf("Right(2, %v, %v)", s, state)
			}
		}
		for _, s := range each() {
			for _, n := range noThreads() {
				if model.Right(n, s, state) {
					t.Errorf("Right(%d, %v, %v)", n, s, state)
				}
			}
		}
	}
}

// isRefused tells whether a call leaves a state as it is, and has this error.
func isRefused(n int, s api.Spec, state []uint64, c api.Call, want api.Errno) bool {
	after, a := model.Apply(n, s, state, c)
	return slices.Equal(after, state) && trial.SameAnswer(a, api.Answer{Err: want})
}

// 27.2: states that are not right, and threads that do not exist, before anything
// else that is wrong.
func TestApplyErrArg(t *testing.T) {
	calls := []api.Call{{}, {Kind: 1}, {Kind: -1}, {Kind: 9, A: top}, {A: top, B: top}}
	for _, c := range calls {
		for s := range wrongSpecs() {
			for _, state := range [][]uint64{nil, {0}, {5, 6}, make([]uint64, 9)} {
				if !isRefused(1, s, state, c, api.ErrArg) {
					t.Errorf("Apply(1, %v, %v, %v)", s, state, c)
				}
			}
		}
		for _, s := range each() {
			for length := range 70 {
				state := slices.Repeat([]uint64{7}, length)
				if !model.Right(2, s, state) && !isRefused(2, s, state, c, api.ErrArg) {
					t.Errorf("Apply(2, %v, %v, %v)", s, state, c)
				}
			}
			state, _ := model.New(2, s)
			for _, n := range noThreads() {
				if !isRefused(n, s, state, c, api.ErrArg) {
					t.Errorf("Apply(%d, %v, %v, %v)", n, s, state, c)
				}
			}
			for _, thread := range []int{math.MinInt, -1, 2, 3, 16, 1 << 32, math.MaxInt} {
				c.Thread = thread
				if !isRefused(2, s, state, c, api.ErrArg) {
					t.Errorf("Apply(2, %v, %v, %v)", s, state, c)
				}
			}
			c.Thread = 0
		}
	}
}

// 27.2: Kinds of operations that the objects do not have, before an argument that
// is out of range, the wrong thread, or an object that is full.
func TestApplyErrKind(t *testing.T) {
	for _, s := range each() {
		state, _ := model.New(2, s)
		for _, word := range []uint64{0, 3, top} {
			for i := range state {
				state[i] = word
			}
			for _, kind := range []int{math.MinInt, -1, table.Kinds(s), 4, 5, 256, 1 << 32, math.MaxInt} {
				for _, arg := range []uint64{0, 1, top} {
					if !isRefused(2, s, state, api.Call{Thread: 1, Kind: kind, A: arg}, api.ErrKind) {
						t.Errorf("%v: Kind %d of %v", s, kind, state)
					}
				}
			}
		}
	}
}

// anyState makes a state that an object can have, of small and of any words.
func anyState(number func(below int) int, n int, s api.Spec) []uint64 {
	least, most := lengths(n, s)
	length := least + number(min(most, least+10)-least+1)
	if s.Kind == api.Queue {
		length -= length % 2
	}
	var state []uint64
	for range length {
		state = append(state, anyWord(number))
	}
	return state
}

// anyWord makes a word that is small, or about the end of a range, or any.
func anyWord(number func(below int) int) uint64 {
	switch number(8) {
	case 0:
		return 1<<24 - 1 + uint64(number(2))
	case 1:
		return 1<<32 - 1 + uint64(number(2))
	case 2:
		return top - uint64(number(3))
	case 3:
		return uint64(number(1<<31)) << number(34)
	}
	return uint64(number(9))
}

// anyCall makes a call that is mostly one of an operation of the object.
func anyCall(number func(below int) int, n int, s api.Spec) api.Call {
	c := api.Call{Thread: number(n), Obj: number(9) - 1, Kind: number(table.Kinds(s)), A: anyWord(number), B: anyWord(number), C: anyWord(number)}
	if number(10) == 0 {
		c.Kind = number(7) - 1
	}
	return c
}

// 27.4, 27.5: from any state, only states of the object are reached; an operation
// that returns an error changes nothing, except that a Univ counts what its type
// does not accept. The number of the object in the call does not matter.
func TestValid(t *testing.T) {
	number := trial.Numbers(61)
	counted := 0
	for range 40000 {
		n := 1 + number(api.MaxThreads)
		s := each()[number(len(each()))]
		state := anyState(number, n, s)
		c := anyCall(number, n, s)
		after, a := model.Apply(n, s, state, c)
		if !model.Right(n, s, state) || !model.Right(n, s, after) {
			t.Fatalf("%d threads, %v: %v leads from %v to %v", n, s, c, state, after)
		}
		if a.Err != api.OK && (a.Val != 0 || len(a.List) != 0) {
			t.Fatalf("%d threads, %v: %v in %v returns %v", n, s, c, state, a)
		}
		want := slices.Clone(state)
		if s.Kind == api.Univ && isOfType(a.Err, s, state, c) {
			want[0]++
			counted++
		}
		if a.Err != api.OK && !slices.Equal(after, want) {
			t.Fatalf("%d threads, %v: %v returns %v and leads from %v to %v", n, s, c, a, state, after)
		}
		c.Obj += 7
		again, b := model.Apply(n, s, state, c)
		if !slices.Equal(after, again) || !trial.SameAnswer(a, b) {
			t.Fatalf("%d threads, %v: %v in %v: %v, %v; for another Obj %v, %v", n, s, c, state, after, a, again, b)
		}
	}
	if counted < 100 {
		t.Error("too few errors of a type:", counted)
	}
}

// isOfType tells whether an error is that of the type of a universal object.
func isOfType(e api.Errno, s api.Spec, state []uint64, c api.Call) bool {
	if e == api.ErrKind || c.A >= 1<<32 || state[0] >= uint64(s.Q) {
		return false
	}
	return e != api.OK
}

// R4: arguments remain what they are, behind their ends, too, and no two results
// share memory.
func TestAlone(t *testing.T) {
	number := trial.Numbers(62)
	for range 20000 {
		n := 1 + number(4)
		s := each()[number(len(each()))]
		state := anyState(number, n, s)
		c := anyCall(number, n, s)
		if number(10) == 0 {
			c.Thread = -1
		}
		room := append(slices.Clone(state), 77, 88, 99)
		given := slices.Clone(room)
		after, a := model.Apply(n, s, room[:len(state)], c)
		legal, ok := model.Legal(n, s, room[:len(state)], c, a)
		same, wrong := model.Legal(n, s, room[:len(state)], c, api.Answer{Err: api.ErrState})
		if !ok || wrong || !slices.Equal(legal, after) || !slices.Equal(same, state) {
			t.Fatalf("%d threads, %v: %v in %v: %v, %v, %v", n, s, c, state, after, legal, same)
		}
		want, list := slices.Clone(after), slices.Clone(a.List)
		for _, l := range [][]uint64{legal, same} {
			spoil(l)
		}
		if !slices.Equal(room, given) || !slices.Equal(after, want) || !slices.Equal(a.List, list) {
			t.Fatalf("%d threads, %v: %v in %v shares memory with Legal", n, s, c, state)
		}
		spoil(after)
		if !slices.Equal(room, given) || !slices.Equal(a.List, list) {
			t.Fatalf("%d threads, %v: %v in %v shares memory", n, s, c, state)
		}
		spoil(a.List)
		if !slices.Equal(room, given) {
			t.Fatalf("%d threads, %v: %v in %v shares its list", n, s, c, state)
		}
	}
}

// spoil changes all words of a list, and those behind its end.
func spoil(l []uint64) {
	l = l[:cap(l)]
	for i := range l {
		l[i] += 12345
	}
}
