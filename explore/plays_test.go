package explore_test

import (
	"slices"
	"testing"

	"roundelay/api"
	"roundelay/bound"
	"roundelay/explore"
	"roundelay/run"
	"roundelay/trial"
)

// areSame is the chapter's definition: each call either responded in both plays with
// the same answer, or in neither of them.
func areSame(calls []api.Call, a, b api.Report) bool {
	for i := range calls {
		x, inA := answer(a, i)
		y, inB := answer(b, i)
		if inA != inB || !trial.SameAnswer(x, y) {
			return false
		}
	}
	return true
}

// answer returns the answer of a call, and whether it has responded.
func answer(r api.Report, call int) (api.Answer, bool) {
	for _, x := range r.Events {
		if x.Call == call && x.Resp != 0 {
			return x.Answer, true
		}
	}
	return api.Answer{}, false
}

// allPlays is the chapter's definition of All, with rows in another order.
func allPlays(t *testing.T, n int, specs []api.Spec, calls []api.Call, length int) explore.Found {
	t.Helper()
	var f explore.Found
	var kinds []api.Report
	for row := range trial.Rows(n, length) {
		r, e := run.Play(n, specs, calls, row)
		if e != api.OK {
			t.Fatal(e)
		}
		f.Plays++
		done := true
		for i := range calls {
			_, ok := answer(r, i)
			done = done && ok
		}
		if done {
			f.Done++
		}
		for _, x := range r.Events {
			f.Most = max(f.Most, x.Steps)
		}
		if !slices.ContainsFunc(kinds, func(k api.Report) bool { return areSame(calls, k, r) }) {
			kinds = append(kinds, r)
		}
	}
	f.Kinds = len(kinds)
	return f
}

// 35.2, 35.3: any objects, of which some calls are wrong, are found to be what the
// definition says, and keep their bounds. R4: the arguments remain what they are.
func TestAllAsDefined(t *testing.T) {
	number := trial.Numbers(111)
	most := []int{0, 6, 9, 6, 4, 4, 3, 3, 3}
	done, kinds := 0, 0
	for i := range 1500 {
		n := 1 + number(8)
		specs := trial.SomeSpecs(number, 1+number(3))
		calls := trial.Spoiled(number, trial.CallsOn(number, n, specs, number(n+3)))
		length := number(most[n] + 1)
		if i%100 == 0 {
			n, length = 1+number(2), 12
			calls = trial.CallsOn(number, n, specs, number(5))
		}
		specsBefore, callsBefore := slices.Clone(specs), slices.Clone(calls)
		f := all(t, n, specs[:len(specs):len(specs)], calls, length)
		if want := allPlays(t, n, specs, calls, length); f != want {
			t.Fatalf("%d threads, %v, %v, length %d: %v; want %v", n, specs, calls, length, f, want)
		}
		if !slices.Equal(specs, specsBefore) || !slices.Equal(calls, callsBefore) {
			t.Fatalf("%v, %v were %v, %v", specs, calls, specsBefore, callsBefore)
		}
		bounded, e := bound.All(n, specs)
		if e != api.OK || f.Most > bounded || f.Most > length {
			t.Fatalf("%d threads, %v, %v: %v; the bound is %d, %v", n, specs, calls, f, bounded, e)
		}
		if f.Done > 0 && f.Done < f.Plays {
			done++
		}
		if f.Kinds > 1 && f.Kinds < f.Plays {
			kinds++
		}
	}
	if done < 100 || kinds < 500 {
		t.Error("too few plays of which some differ:", done, kinds)
	}
}

// 35.3: for all rows of the greatest length, no operation exceeds its bound; those of
// objects whose operations are short reach it.
func TestBounds(t *testing.T) {
	for i, spec := range trial.Specs() {
		specs := []api.Spec{spec}
		calls := []api.Call{{A: 1}, {Thread: 1, Kind: 1, A: 1}, {Kind: 1}, {Thread: 1, A: 1}}
		bounded, e := bound.All(2, specs)
		if e != api.OK {
			t.Fatal(e)
		}
		f := all(t, 2, specs, calls, 12)
		if f.Plays != 4096 || f.Most > min(bounded, 12) {
			t.Errorf("%v: %v; the bound is %d", spec, f, bounded)
		}
		if i < 6 && f.Most != bounded {
			t.Errorf("%v: %v; the bound %d is not reached", spec, f, bounded)
		}
	}
}

// R4: the spare capacity of the arguments remains what it is. R5: the same arguments
// have the same results.
func TestAllAlone(t *testing.T) {
	specs := append(make([]api.Spec, 0, 2), api.Spec{Kind: api.Snap, P: 1})
	calls := append(make([]api.Call, 0, 4), api.Call{A: 3}, api.Call{Thread: 1, Kind: 1})
	specs[:2][1] = api.Spec{Kind: 77}
	calls[:4][3] = api.Call{Thread: 88}
	specsBefore, callsBefore := slices.Clone(specs[:2]), slices.Clone(calls[:4])
	first := all(t, 2, specs, calls, 12)
	second := all(t, 2, specs, calls, 12)
	if first != second || first.Plays != 4096 {
		t.Error(first, second)
	}
	if !slices.Equal(specs[:2], specsBefore) || !slices.Equal(calls[:4], callsBefore) {
		t.Error(specs[:2], calls[:4])
	}
}
