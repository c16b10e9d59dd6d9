package solo_test

import (
	"slices"
	"testing"

	"roundelay/api"
	"roundelay/linear"
	"roundelay/model"
	"roundelay/node"
	"roundelay/run"
	"roundelay/table"
	"roundelay/trial"
)

// whole returns the play in which calls are executed completely, one after the other.
func whole(t *testing.T, n int, specs []api.Spec, calls []api.Call) api.Report {
	t.Helper()
	r, _, e := run.Whole(n, specs, calls)
	if e != api.OK {
		t.Fatalf("Whole(%d, %v, %v): %v", n, specs, calls, e)
	}
	return r
}

// checkPlay checks that the play of calls has their answers, and returns these.
func checkPlay(t *testing.T, n int, specs []api.Spec, calls []api.Call) []api.Answer {
	t.Helper()
	r, l := whole(t, n, specs, calls), answersOf(t, n, specs, calls)
	for i, x := range r.Events {
		if x.Call != i || !trial.SameAnswer(x.Answer, l[i]) {
			t.Fatalf("%d threads, %v, %v: %v; the play has %v", n, specs, calls[:i+1], l[i], x)
		}
	}
	checkDescriptors(t, n, specs, calls, r)
	return l
}

// checkDescriptors checks that no queue with attempts has written a descriptor, but
// that one without attempts has one for each operation that was not refused.
func checkDescriptors(t *testing.T, n int, specs []api.Spec, calls []api.Call, r api.Report) {
	t.Helper()
	begins, _, e := table.Lay(n, specs)
	if e != api.OK {
		t.Fatal(e)
	}
	for obj, s := range specs {
		if s.Kind != api.Queue {
			continue
		}
		nodes, _ := node.At(n, s.P, 1, 0)
		words := r.Words[begins[obj]+nodes-n : begins[obj]+nodes]
		for thread, w := range words {
			if (w != 0) != (s.Q == 0 && hasOperation(calls, r, thread, obj)) {
				t.Fatalf("%d threads, %v, %v: the descriptors of the object %d are %v", n, specs, calls, obj, words)
			}
		}
	}
}

// hasOperation tells whether a thread put a value into a queue, took one, or found
// nothing in it.
func hasOperation(calls []api.Call, r api.Report, thread, obj int) bool {
	return slices.ContainsFunc(r.Events, func(x api.Event) bool {
		c := calls[x.Call]
		return c.Thread == thread && c.Obj == obj && (x.Answer.Err == api.OK || x.Answer.Err == api.ErrEmpty)
	})
}

// anyCalls makes objects, and calls on them, some of which are wrong, in which more is
// put than taken, or less.
func anyCalls(number func(below int) int) (int, []api.Spec, []api.Call) {
	n := 1 + number(4)
	if number(4) == 0 {
		n = 1 + number(api.MaxThreads)
	}
	var specs []api.Spec
	for range 1 + number(3) {
		s := trial.AnySpec(number)
		if number(2) == 0 {
			s = api.Spec{Kind: api.Queue, P: 1 + number(4), Q: number(4)}
		}
		specs = append(specs, s)
	}
	calls := trial.CallsOn(number, n, specs, number(80))
	puts := 1 + number(4)
	for i := range calls {
		c := &calls[i]
		if number(2) == 0 {
			c.A = uint64(number(1 << number(28)))
		}
		if specs[c.Obj].Kind == api.Queue {
			c.Kind = min(1, number(5)/puts)
		}
	}
	return n, specs, trial.Spoiled(number, calls)
}

// 29.3, 29.4, W5: plays of any objects in which calls are executed completely have
// these answers.
func TestPlays(t *testing.T) {
	number := trial.Numbers(71)
	full, empty, taken := 0, 0, 0
	for range 4000 {
		n, specs, calls := anyCalls(number)
		for i, a := range checkPlay(t, n, specs, calls) {
			c := calls[i]
			if c.Obj < 0 || c.Obj >= len(specs) || specs[c.Obj].Kind != api.Queue {
				continue
			}
			switch {
			case a.Err == api.ErrFull:
				full++
			case a.Err == api.ErrEmpty:
				empty++
			case a.Err == api.OK && c.Kind == 1:
				taken++
			}
		}
	}
	if full < 5000 || empty < 5000 || taken < 5000 {
		t.Error("too few operations of a kind:", full, empty, taken)
	}
}

// 29.3, 29.4: all rows of seven operations of two threads on small queues.
func TestAllRows(t *testing.T) {
	for places := 1; places <= 2; places++ {
		for attempts := range 2 {
			specs := []api.Spec{{Kind: api.Queue, P: places, Q: attempts}}
			for row := range trial.Rows(4, 7) {
				var calls []api.Call
				for i, x := range row {
					calls = append(calls, api.Call{Thread: x % 2, Kind: x / 2, A: uint64(i)})
				}
				checkPlay(t, 2, specs, calls)
			}
		}
	}
}

// 29.3: as many calls as there can be, so that places are used again and again.
func TestLongPlay(t *testing.T) {
	number := trial.Numbers(72)
	specs := []api.Spec{{Kind: api.Queue, P: 2, Q: 1}, {Kind: api.Queue, P: 1}, {Kind: api.Univ, P: 3, Q: 256}}
	for range 20 {
		calls := trial.CallsOn(number, 3, specs, api.MaxCalls)
		checkPlay(t, 3, specs, calls)
	}
}

// 29.1: the answers are legal ones of events that follow each other.
func TestLegal(t *testing.T) {
	number := trial.Numbers(73)
	for range 1000 {
		n, specs, calls := anyCalls(number)
		var l []api.Event
		for i, a := range answersOf(t, n, specs, calls) {
			l = append(l, api.Event{Call: i, Inv: i + 1, Resp: i + 1, Steps: 1, Answer: a, Key: []int{2*i + 2}})
		}
		if !linear.Whole(n, specs, calls, api.Report{Events: l, Ticks: len(l)}) {
			t.Fatalf("%d threads, %v, %v: %v", n, specs, calls, l)
		}
	}
}

// 29.2: the final models are those after the operations that were not without a place,
// one by one.
func TestFinalModels(t *testing.T) {
	number := trial.Numbers(74)
	for range 1000 {
		n, specs, calls := anyCalls(number)
		l := answersOf(t, n, specs, calls)
		for obj, s := range specs {
			m, e := model.New(n, s)
			if e != api.OK {
				t.Fatal(e)
			}
			for i, c := range calls {
				if c.Obj == obj && (s.Kind != api.Queue || l[i].Err != api.ErrFull) {
					m, _ = model.Apply(n, s, m, c)
				}
			}
			if last := lastOf(t, n, specs, calls, obj); !slices.Equal(last, m) {
				t.Fatalf("%d threads, %v, %v: the object %d is %v at last; want %v", n, specs, calls, obj, last, m)
			}
		}
	}
}

// 29.2: what is in a queue at last is what is then taken from it, in a play, too.
func TestRest(t *testing.T) {
	number := trial.Numbers(75)
	for range 500 {
		n, specs, calls := anyCalls(number)
		for obj, s := range specs {
			if s.Kind != api.Queue {
				continue
			}
			last := lastOf(t, n, specs, calls, obj)
			more := slices.Clone(calls)
			for range len(last)/2 + 1 {
				more = append(more, api.Call{Thread: number(n), Obj: obj, Kind: 1})
			}
			rest := whole(t, n, specs, more).Events[len(calls):]
			for i := range len(last) / 2 {
				if !trial.SameAnswer(rest[i].Answer, val(last[2*i+1])) {
					t.Fatalf("%d threads, %v, %v: %v at last; then %v", n, specs, calls, last, rest)
				}
			}
			if !trial.SameAnswer(rest[len(rest)-1].Answer, fail(api.ErrEmpty)) {
				t.Fatalf("%d threads, %v, %v: %v at last; then %v", n, specs, calls, last, rest)
			}
		}
	}
}
