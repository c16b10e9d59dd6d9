package solo_test

import (
	"math"
	"slices"
	"testing"

	"roundelay/api"
	"roundelay/solo"
	"roundelay/trial"
)

// answersOf returns the answers of calls, which must have no error.
func answersOf(t *testing.T, n int, specs []api.Spec, calls []api.Call) []api.Answer {
	t.Helper()
	l, e := solo.Answers(n, specs, calls)
	if e != api.OK || len(l) != len(calls) {
		t.Fatalf("Answers(%d, %v, %v): %v, %v", n, specs, calls, l, e)
	}
	return l
}

// lastOf returns the final model of an object, for which there must be no error.
func lastOf(t *testing.T, n int, specs []api.Spec, calls []api.Call, obj int) []uint64 {
	t.Helper()
	m, e := solo.Last(n, specs, calls, obj)
	if e != api.OK {
		t.Fatalf("Last(%d, %v, %v, %d): %v", n, specs, calls, obj, e)
	}
	return m
}

// put and take are calls on the object 0.
func put(thread int, a uint64) api.Call { return api.Call{Thread: thread, A: a} }
func take(thread int) api.Call          { return api.Call{Thread: thread, Kind: 1} }

// val is an answer with a number, and fail is one with an error.
func val(v uint64) api.Answer     { return api.Answer{Val: v} }
func fail(e api.Errno) api.Answer { return api.Answer{Err: e} }

// course is calls, their answers, and the final model of the object 0.
type course struct {
	calls []api.Call
	want  []api.Answer
	last  []uint64
}

// checkCourses checks calls by two threads on an object.
func checkCourses(t *testing.T, s api.Spec, courses ...course) {
	t.Helper()
	specs := []api.Spec{s}
	for _, x := range courses {
		if l := answersOf(t, 2, specs, x.calls); !slices.EqualFunc(l, x.want, trial.SameAnswer) {
			t.Errorf("%v, %v: %v; want %v", s, x.calls, l, x.want)
		}
		if m := lastOf(t, 2, specs, x.calls, 0); !slices.Equal(m, x.last) {
			t.Errorf("%v, %v: %v at last; want %v", s, x.calls, m, x.last)
		}
	}
}

// 29.1, 29.2: the example of the chapter: a queue with one place.
func TestExample(t *testing.T) {
	full := fail(api.ErrFull)
	for n := 1; n <= api.MaxThreads; n++ {
		for attempts := range 4 {
			specs := []api.Spec{{Kind: api.Queue, P: 1, Q: attempts}}
			for thread := range n {
				calls := []api.Call{put(thread, 5), put(thread, 6), take(n - 1), put(thread, 7)}
				l := answersOf(t, n, specs, calls)
				if want := []api.Answer{{}, full, val(5), full}; !slices.EqualFunc(l, want, trial.SameAnswer) {
					t.Errorf("%d threads, %d attempts: %v", n, attempts, l)
				}
				if m := lastOf(t, n, specs, calls, 0); len(m) != 0 {
					t.Errorf("%d threads, %d attempts: %v at last", n, attempts, m)
				}
				if m := lastOf(t, n, specs, calls[:2], 0); !slices.Equal(m, []uint64{uint64(thread), 5}) {
					t.Errorf("%d threads, %d attempts: %v at last", n, attempts, m)
				}
			}
		}
	}
}

// 29.1: with one place, the place of the head is that of the thread that put the
// value that was last taken, whoever took it; it is free as soon as a value of
// another thread is taken, but not when nothing is found.
func TestOnePlace(t *testing.T) {
	ok, full, empty := api.Answer{}, fail(api.ErrFull), fail(api.ErrEmpty)
	checkCourses(t, api.Spec{Kind: api.Queue, P: 1, Q: 2},
		course{},
		course{[]api.Call{take(0), put(0, 5)}, []api.Answer{empty, ok}, []uint64{0, 5}},
		course{[]api.Call{put(0, 5), put(1, 6), put(0, 7), put(1, 8)}, []api.Answer{ok, ok, full, full}, []uint64{0, 5, 1, 6}},
		course{[]api.Call{put(0, 5), take(1), put(1, 6), put(0, 7)}, []api.Answer{ok, val(5), ok, full}, []uint64{1, 6}},
		course{[]api.Call{put(1, 5), take(0), put(1, 6), put(0, 7)}, []api.Answer{ok, val(5), full, ok}, []uint64{0, 7}},
		course{[]api.Call{put(0, 5), take(0), take(0), put(0, 6)}, []api.Answer{ok, val(5), empty, full}, nil},
		course{[]api.Call{put(0, 5), take(0), take(1), put(0, 6)}, []api.Answer{ok, val(5), empty, full}, nil},
		course{
			[]api.Call{put(0, 5), take(0), put(1, 6), take(0), put(0, 7), put(1, 8), take(1), put(1, 9)},
			[]api.Answer{ok, val(5), ok, val(6), ok, full, val(7), ok},
			[]uint64{1, 9},
		},
	)
}

// 29.1: with two places, a value in the queue and the one that was last taken have
// one each.
func TestTwoPlaces(t *testing.T) {
	ok, full := api.Answer{}, fail(api.ErrFull)
	checkCourses(t, api.Spec{Kind: api.Queue, P: 2},
		course{
			[]api.Call{put(0, 1), put(0, 2), put(0, 3), take(0), put(0, 4), take(0), put(0, 5), put(0, 6)},
			[]api.Answer{ok, ok, full, val(1), full, val(2), ok, full},
			[]uint64{0, 5},
		},
		course{
			[]api.Call{put(1, 1), put(0, 2), put(0, 3), take(0), put(0, 4), put(1, 5), put(1, 6), take(0), put(1, 7), put(0, 8)},
			[]api.Answer{ok, ok, ok, val(1), full, ok, full, val(2), ok, full},
			[]uint64{0, 3, 1, 5, 1, 7},
		},
	)
}

// 29.1: what would be an error anyway is this error, also if all places are taken,
// and changes nothing.
func TestErrorsOfQueue(t *testing.T) {
	ok, full := api.Answer{}, fail(api.ErrFull)
	wrong := []api.Call{
		put(0, 1<<24-1), put(0, 1<<24), put(0, math.MaxUint64), {Kind: 2}, {Kind: -1, A: 1 << 24}, {Kind: math.MinInt}, {Kind: math.MaxInt},
	}
	kind := fail(api.ErrKind)
	errors := []api.Answer{full, fail(api.ErrRange), fail(api.ErrRange), kind, kind, kind, kind}
	checkCourses(t, api.Spec{Kind: api.Queue, P: 1, Q: 1},
		course{slices.Concat([]api.Call{put(0, 5)}, wrong), slices.Concat([]api.Answer{ok}, errors), []uint64{0, 5}},
		course{slices.Concat([]api.Call{put(0, 5), take(1)}, wrong), slices.Concat([]api.Answer{ok, val(5)}, errors), nil},
		course{
			slices.Concat(wrong[1:], []api.Call{put(0, 1<<24-1), take(0)}),
			slices.Concat(errors[1:], []api.Answer{ok, val(1<<24 - 1)}),
			nil,
		},
	)
}

// 29.1: the greatest queue: each thread has as many places as it has.
func TestManyPlaces(t *testing.T) {
	for _, places := range []int{1, 2, 31, 32} {
		specs := []api.Spec{{Kind: api.Queue, P: places}}
		var calls []api.Call
		var want []api.Answer
		var values []uint64
		for i := range places {
			for thread := range api.MaxThreads {
				v := uint64(100*i + thread)
				calls = append(calls, put(thread, v))
				want = append(want, api.Answer{})
				values = append(values, uint64(thread), v)
			}
		}
		for thread := range api.MaxThreads {
			calls = append(calls, put(thread, 9))
			want = append(want, fail(api.ErrFull))
		}
		if l := answersOf(t, 16, specs, calls); !slices.EqualFunc(l, want, trial.SameAnswer) {
			t.Errorf("%d places: %v", places, l)
		}
		if m := lastOf(t, 16, specs, calls, 0); !slices.Equal(m, values) {
			t.Errorf("%d places: %v at last", places, m)
		}
	}
}

// 29.1, 29.2: each queue has a value of its own that was last taken, and objects
// that are no queues do not matter, though their operations have the same Kinds.
func TestSeveralObjects(t *testing.T) {
	specs := []api.Spec{{Kind: api.Queue, P: 1}, {Kind: api.Cell, P: 1}, {Kind: api.Queue, P: 1, Q: 3}, {Kind: api.Max, P: 1}, {Kind: api.Univ, P: 3, Q: 9}}
	calls := []api.Call{
		{A: 5}, {Obj: 2, A: 6}, {Kind: 1}, {Obj: 2, A: 7}, {Thread: 1, Obj: 2, Kind: 1}, {Obj: 2, A: 8},
		{Thread: 1, A: 9}, {Kind: 1}, {A: 4}, {Obj: 2, A: 3}, {Thread: 1, Obj: 2, A: 2},
		{Obj: 1, Kind: 1, B: 7}, {Obj: 1}, {Obj: 1}, {Obj: 3, A: 1}, {Obj: 3, A: 1}, {Obj: 3, Kind: 1},
		{Obj: 4, A: 1}, {Obj: 4, A: 2}, {Obj: 4, Kind: 1}, {Obj: 4, A: 3},
	}
	ok, full := api.Answer{}, fail(api.ErrFull)
	want := []api.Answer{
		ok, ok, val(5), full, val(6), full, ok, val(9), ok, full, ok,
		ok, val(7), val(7), ok, ok, val(1), ok, ok, val(1), ok,
	}
	if l := answersOf(t, 2, specs, calls); !slices.EqualFunc(l, want, trial.SameAnswer) {
		t.Errorf("%v; want %v", l, want)
	}
	for obj, want := range [][]uint64{{0, 4}, {7}, {1, 2}, {1}, {4, 2, 3}} {
		if m := lastOf(t, 2, specs, calls, obj); !slices.Equal(m, want) {
			t.Errorf("object %d: %v; want %v", obj, m, want)
		}
	}
}

// 29.1: answers with a list, and those of every other Kind, as plain numbers.
func TestModels(t *testing.T) {
	list := func(l ...uint64) api.Answer { return api.Answer{List: l} }
	ok := api.Answer{}
	for _, x := range []struct {
		s api.Spec
		course
	}{
		{api.Spec{Kind: api.Cons}, course{[]api.Call{take(0), put(1, 6), put(0, 5), take(0)}, []api.Answer{fail(api.ErrEmpty), val(6), val(6), val(6)}, []uint64{7}}},
		{api.Spec{Kind: api.Tally}, course{[]api.Call{put(0, 0), put(1, 0), take(1)}, []api.Answer{ok, ok, val(2)}, []uint64{2}}},
		{api.Spec{Kind: api.Adder}, course{[]api.Call{put(0, 5), take(1), {Kind: 2}, take(0)}, []api.Answer{ok, val(5), val(5), val(6)}, []uint64{6}}},
		{api.Spec{Kind: api.Snap, P: 1}, course{[]api.Call{put(1, 5), put(1, 6), put(0, 7), take(0)}, []api.Answer{ok, fail(api.ErrFull), ok, list(7, 5)}, []uint64{7, 5, 1, 1}}},
		{api.Spec{Kind: api.Multi, P: 3, Q: 1}, course{[]api.Call{{A: 2, B: 8}, put(1, 3), take(1)}, []api.Answer{ok, fail(api.ErrRange), list(0, 0, 8)}, []uint64{0, 0, 8, 1, 0}}},
		{api.Spec{Kind: api.Univ, P: 2, Q: 2}, course{[]api.Call{take(0), put(1, 4), put(0, 3)}, []api.Answer{fail(api.ErrEmpty), ok, fail(api.ErrFull)}, []uint64{2, 4}}},
		{api.Spec{Kind: api.Pin, P: 2}, course{[]api.Call{put(0, 4), put(1, 9), take(1)}, []api.Answer{ok, fail(api.ErrRole), list(4, 5)}, []uint64{4, 5}}},
	} {
		checkCourses(t, x.s, x.course)
	}
}

// 29.1: calls for objects that do not exist, whatever else is wrong with them.
func TestNoObject(t *testing.T) {
	none := fail(api.ErrObj)
	for count := range api.MaxObjs + 1 {
		specs := slices.Repeat([]api.Spec{{Kind: api.Adder}}, count)
		var calls []api.Call
		for _, obj := range []int{-1, count, math.MinInt, math.MaxInt, 1 << 32} {
			calls = append(calls, api.Call{Obj: obj, Kind: 1}, api.Call{Thread: 1, Obj: obj, Kind: -1, A: math.MaxUint64})
		}
		for i, a := range answersOf(t, 2, specs, calls) {
			if !trial.SameAnswer(a, none) {
				t.Errorf("%d objects, %v: %v", count, calls[i], a)
			}
		}
		for obj := range count {
			if m := lastOf(t, 2, specs, calls, obj); !slices.Equal(m, []uint64{0}) {
				t.Errorf("%d objects: %v at last", count, m)
			}
		}
	}
}

// checkError checks that Answers and Last return an error, and nothing else. For Last
// it precedes that there is no such object.
func checkError(t *testing.T, n int, specs []api.Spec, calls []api.Call, want api.Errno) {
	t.Helper()
	if l, e := solo.Answers(n, specs, calls); e != want || len(l) != 0 {
		t.Errorf("Answers(%d, %v, %d calls): %v, %v; want %v", n, specs, len(calls), l, e, want)
	}
	for _, obj := range []int{0, -1, len(specs), math.MaxInt} {
		if m, e := solo.Last(n, specs, calls, obj); e != want || len(m) != 0 {
			t.Errorf("Last(%d, %v, %d calls, %d): %v, %v; want %v", n, specs, len(calls), obj, m, e, want)
		}
	}
}

// 29.1, 29.2: the errors, each alone, and those of the calls before those of the
// objects.
func TestErrors(t *testing.T) {
	big := api.Spec{Kind: api.Snap, P: 64} // 17424 words for 16 threads
	wrongSpecs := map[api.Errno][][]api.Spec{
		api.ErrLong:  {make([]api.Spec, 9), slices.Repeat([]api.Spec{{Kind: 10}}, 9), {big, big, big, big}},
		api.ErrKind:  {{{Kind: 10}}, {{Kind: -1}}, {big, big, big, big, {Kind: math.MaxInt}, {Kind: api.Cell}}},
		api.ErrRange: {{{Kind: api.Cell}}, {{Kind: api.Univ, P: 9, Q: 1}}, {{Kind: api.Tally}, {Kind: api.Queue, P: 33}, {Kind: 10}}},
	}
	for want, lists := range wrongSpecs {
		for _, specs := range lists {
			checkError(t, 16, specs, nil, want)
			checkError(t, 16, specs, make([]api.Call, api.MaxCalls), want)
			for _, w := range trial.WrongPlays() {
				// Too many picks are not an error of these calls.
				if len(w.Picks) <= api.MaxPicks {
					checkError(t, w.N, specs, w.Calls, w.Want)
				}
			}
		}
	}
	good := []api.Spec{{Kind: api.Queue, P: 1}}
	for _, n := range []int{math.MinInt, -1, 0, 17, math.MaxInt} {
		checkError(t, n, good, nil, api.ErrArg)
		checkError(t, n, good, make([]api.Call, api.MaxCalls+1), api.ErrArg)
	}
	for _, thread := range []int{math.MinInt, -1, 2, 16, math.MaxInt} {
		calls := make([]api.Call, api.MaxCalls+1)
		calls[999].Thread = thread
		checkError(t, 2, good, calls, api.ErrLong)
		checkError(t, 2, good, calls[:1000], api.ErrArg)
	}
}

// 29.1, 29.2: as many calls as there can be.
func TestMostCalls(t *testing.T) {
	specs := []api.Spec{{Kind: api.Adder}}
	calls := slices.Repeat([]api.Call{{Kind: 2}}, api.MaxCalls)
	for i, a := range answersOf(t, 1, specs, calls) {
		if !trial.SameAnswer(a, val(uint64(i))) {
			t.Errorf("%d: %v", i, a)
		}
	}
	if m := lastOf(t, 1, specs, calls, 0); !slices.Equal(m, []uint64{api.MaxCalls}) {
		t.Error(m)
	}
}

// 29.2: objects that do not exist, and the models of those that no call is for.
func TestLast(t *testing.T) {
	specs := []api.Spec{{Kind: api.Multi, P: 2, Q: 1}, {Kind: api.Univ, P: 7, Q: 1}, {Kind: api.Queue, P: 1}}
	for _, obj := range []int{-1, 3, math.MinInt, math.MaxInt} {
		if m, e := solo.Last(3, specs, []api.Call{{}}, obj); e != api.ErrObj || len(m) != 0 {
			t.Errorf("object %d: %v, %v", obj, m, e)
		}
		if m, e := solo.Last(1, nil, nil, obj); e != api.ErrObj || len(m) != 0 {
			t.Errorf("object %d of none: %v, %v", obj, m, e)
		}
	}
	for obj, words := range []int{5, 9, 0} {
		if m := lastOf(t, 3, specs, []api.Call{{Obj: 3}}, obj); !slices.Equal(m, make([]uint64, words)) {
			t.Errorf("object %d: %v", obj, m)
		}
	}
	if l := answersOf(t, 1, nil, nil); len(l) != 0 {
		t.Error(l)
	}
}

// spoil changes all words of a list, and those behind its end.
func spoil(l []uint64) {
	l = l[:cap(l)]
	for i := range l {
		l[i] += 12345
	}
}

// R4, R5: arguments remain what they are, with their spare capacity; no two results
// share memory, and nothing is kept from call to call.
func TestAlone(t *testing.T) {
	specs := append(make([]api.Spec, 0, 4), api.Spec{Kind: api.Snap, P: 9}, api.Spec{Kind: api.Queue, P: 1})
	calls := append(make([]api.Call, 0, 9), put(0, 5), take(0), take(0), api.Call{Obj: 1, A: 6}, api.Call{Obj: 1, Kind: 1}, api.Call{Obj: 1, A: 7})
	specsBefore, callsBefore := slices.Clone(specs[:4]), slices.Clone(calls[:9])
	want := []api.Answer{{}, {List: []uint64{5}}, {List: []uint64{5}}, {}, val(6), fail(api.ErrFull)}
	for range 3 {
		l, m := answersOf(t, 1, specs, calls), lastOf(t, 1, specs, calls, 0)
		if !slices.EqualFunc(l, want, trial.SameAnswer) || !slices.Equal(m, []uint64{5, 1}) {
			t.Error(l, m)
		}
		spoil(l[1].List)
		spoil(m)
		if !slices.Equal(l[2].List, []uint64{5}) {
			t.Error(l)
		}
	}
	if !slices.Equal(specs[:4], specsBefore) || !slices.Equal(calls[:9], callsBefore) {
		t.Error(specs, calls)
	}
}
