package bound_test

import (
	"testing"

	"roundelay/api"
	"roundelay/bound"
	"roundelay/loom"
	"roundelay/table"
	"roundelay/trial"
)

// mostOf returns the bound of a call.
func mostOf(t *testing.T, n int, specs []api.Spec, c api.Call) int {
	t.Helper()
	most, e := bound.Most(n, specs[c.Obj], c.Kind)
	if e != api.OK {
		t.Fatalf("Most(%d, %v, %d): %v", n, specs[c.Obj], c.Kind, e)
	}
	return most
}

// checkSteps checks that no operation has made more steps than its bound, and
// that one that has not responded has made fewer.
func checkSteps(t *testing.T, n int, specs []api.Spec, calls []api.Call, r api.Report) {
	t.Helper()
	for _, x := range r.Events {
		steps := x.Steps
		if x.Resp == 0 {
			steps++
		}
		if most := mostOf(t, n, specs, calls[x.Call]); steps > most {
			t.Fatalf("%d threads, %v, %v: %v; the bound is %d", n, specs, calls[x.Call], x, most)
		}
	}
}

// begin returns a play without picks.
func begin(t *testing.T, n int, specs []api.Spec, calls []api.Call) *loom.Loom {
	t.Helper()
	objects, e := table.Objects(n, specs)
	if e != api.OK {
		t.Fatalf("Objects(%d, %v): %v", n, specs, e)
	}
	l, e := loom.New(n, calls, objects...)
	if e != api.OK {
		t.Fatalf("the play of %v: %v", specs, e)
	}
	return l
}

// played returns the play with these picks.
func played(t *testing.T, n int, specs []api.Spec, calls []api.Call, picks []int) *loom.Loom {
	t.Helper()
	l := begin(t, n, specs, calls)
	for _, p := range picks {
		l.Pick(p)
	}
	return l
}

// responses returns how many calls of a thread have responded.
func responses(calls []api.Call, r api.Report, thread int) int {
	count := 0
	for _, x := range r.Events {
		if x.Resp != 0 && calls[x.Call].Thread == thread {
			count++
		}
	}
	return count
}

// current returns the call that a thread is to execute now, if it has one left.
func current(calls []api.Call, r api.Report, thread int) (api.Call, bool) {
	done := responses(calls, r, thread)
	for _, c := range calls {
		if c.Thread != thread {
			continue
		}
		if done == 0 {
			return c, true
		}
		done--
	}
	return api.Call{}, false
}

// checkAlone checks that, after some picks, each thread that is picked alone
// responds within its bound.
func checkAlone(t *testing.T, n int, specs []api.Spec, calls []api.Call, picks []int) {
	t.Helper()
	for thread := range n {
		l := played(t, n, specs, calls, picks)
		before := l.Report()
		c, ok := current(calls, before, thread)
		if !ok {
			continue
		}
		for range mostOf(t, n, specs, c) {
			l.Pick(thread)
		}
		after := l.Report()
		if responses(calls, after, thread) == responses(calls, before, thread) {
			t.Fatalf("%d threads, %v, %v: the thread %d has not responded", n, specs, calls, thread)
		}
		checkSteps(t, n, specs, calls, after)
	}
}

// 24.4: plays of single objects, by a few threads and by many.
func TestPlays(t *testing.T) {
	number := trial.Numbers(27)
	for _, s := range trial.Specs() {
		specs := []api.Spec{s}
		for _, n := range []int{1, 2, 3, 4, 7, 16} {
			for range 60 {
				calls := trial.CallsOn(number, n, specs, 6*n)
				picks := trial.Bursts(number, n, 30*len(calls))
				checkSteps(t, n, specs, calls, played(t, n, specs, calls, picks).Report())
			}
		}
	}
}

// 24.4: plays of several objects, after which each thread responds alone,
// wherever the others have stopped.
func TestAlone(t *testing.T) {
	number := trial.Numbers(28)
	for range 2000 {
		n := 1 + number(4)
		specs := trial.SomeSpecs(number, 1+number(4))
		calls := trial.CallsOn(number, n, specs, 8*n)
		checkAlone(t, n, specs, calls, trial.Bursts(number, n, number(100*n)))
	}
}

// 24.1, 24.4: operations of most objects do make as many steps in some plays, so
// no smaller bound holds.
func TestReached(t *testing.T) {
	number := trial.Numbers(29)
	for _, s := range trial.Specs() {
		if s.Kind == api.Univ || s.Kind == api.Queue {
			continue
		}
		specs := []api.Spec{s}
		for n := 1; n <= 3; n++ {
			reached := make([]int, table.Kinds(s))
			for range 200 {
				calls := trial.CallsOn(number, n, specs, 10*n)
				r := played(t, n, specs, calls, trial.Bursts(number, n, 40*len(calls))).Report()
				for _, x := range r.Events {
					kind := calls[x.Call].Kind
					reached[kind] = max(reached[kind], x.Steps)
				}
			}
			for kind, steps := range reached {
				if most, e := bound.Most(n, s, kind); steps != most || e != api.OK {
					t.Errorf("%d threads, %v, Kind %d: %d steps; the bound is %d, %v", n, s, kind, steps, most, e)
				}
			}
		}
	}
}

// 24.2, 24.4: no operation of any play makes more steps than the bound of all.
func TestAllOfPlays(t *testing.T) {
	number := trial.Numbers(30)
	for range 300 {
		n := 1 + number(4)
		specs := trial.SomeSpecs(number, 2)
		calls := trial.CallsOn(number, n, specs, 8*n)
		// An operation of an object that does not exist takes a step, too.
		calls = append(calls, api.Call{Obj: 2})
		most, e := bound.All(n, specs)
		if e != api.OK {
			t.Fatalf("All(%d, %v): %v", n, specs, e)
		}
		for _, x := range played(t, n, specs, calls, trial.Bursts(number, n, 30*len(calls))).Report().Events {
			if x.Steps > most {
				t.Fatalf("%v: %v; the bound is %d", specs, x, most)
			}
		}
	}
}
