package trial_test

import (
	"slices"
	"testing"

	"roundelay/api"
	"roundelay/table"
	"roundelay/tally"
	"roundelay/trial"
)

// All rows come, each once, and a range that stops early gets no more.
func TestRows(t *testing.T) {
	var l [][]int
	for row := range trial.Rows(3, 2) {
		if slices.ContainsFunc(l, func(r []int) bool { return slices.Equal(r, row) }) {
			t.Error("twice:", row)
		}
		l = append(l, row)
	}
	if len(l) != 9 {
		t.Error(l)
	}
	for range trial.Rows(2, 1) {
		break
	}
}

// Reports that differ anywhere are not the same; empty lists are.
func TestSameReport(t *testing.T) {
	one := func() api.Report {
		return api.Report{
			Events: []api.Event{{Call: 1, Inv: 2, Resp: 3, Steps: 2, Answer: api.Answer{Val: 4, List: []uint64{5}}, Key: []int{6}}},
			Words:  []uint64{7},
		}
	}
	if !trial.SameReport(one(), one()) || !trial.SameReport(api.Report{}, api.Report{Words: []uint64{}}) {
		t.Error("the same reports differ")
	}
	for i, change := range []func(r *api.Report){
		func(r *api.Report) { r.Events = nil },
		func(r *api.Report) { r.Events[0].Call = 0 },
		func(r *api.Report) { r.Events[0].Inv = 0 },
		func(r *api.Report) { r.Events[0].Resp = 0 },
		func(r *api.Report) { r.Events[0].Steps = 0 },
		func(r *api.Report) { r.Events[0].Answer.Err = api.ErrArg },
		func(r *api.Report) { r.Events[0].Answer.Val = 0 },
		func(r *api.Report) { r.Events[0].Answer.List[0] = 0 },
		func(r *api.Report) { r.Events[0].Key[0] = 0 },
		func(r *api.Report) { r.Words[0] = 0 },
		func(r *api.Report) { r.Counts.Read = 1 },
		func(r *api.Report) { r.Ticks = 1 },
		func(r *api.Report) { r.Idle = 1 },
	} {
		r := one()
		change(&r)
		if trial.SameReport(r, one()) {
			t.Errorf("change %d makes no difference", i)
		}
	}
}

// Keys order the events that have one; one outside of its event is told.
func TestInOrder(t *testing.T) {
	r := api.Report{Ticks: 5, Events: []api.Event{
		{Call: 0, Inv: 1, Resp: 4, Key: []int{8}},
		{Call: 1, Inv: 2, Key: []int{5, 2}},
		{Call: 2, Inv: 3},
		{Call: 3, Inv: 5, Resp: 5, Key: []int{10}},
	}}
	l, ok := trial.InOrder(r)
	if !ok || len(l) != 3 || l[0].Call != 1 || l[1].Call != 0 || l[2].Call != 3 {
		t.Error(l, ok)
	}
	for _, key := range [][]int{nil, {1}, {9}} {
		r.Events[0].Key = key
		if l, ok := trial.InOrder(r); ok {
			t.Errorf("key %v: %v", key, l)
		}
	}
}

// A play that is made access by access: two threads swap the same word, and
// one adds to another one, and reads it.
func TestPlay(t *testing.T) {
	next := func(c api.Call, results []uint64) (trial.Access, api.Answer, bool) {
		switch {
		case c.Kind == 0 && len(results) == 0:
			return trial.Access{Kind: 'C', At: 0, X: 0, Y: c.A}, api.Answer{}, false
		case c.Kind == 1 && len(results) == 0:
			return trial.Access{Kind: 'A', At: 1, X: c.A}, api.Answer{}, false
		case c.Kind == 1 && len(results) == 1:
			return trial.Access{Kind: 'W', At: 0, X: 9}, api.Answer{}, false
		case c.Kind == 1 && len(results) == 2:
			return trial.Access{Kind: 'R', At: 1}, api.Answer{}, false
		case c.Kind == 2:
			return trial.Access{}, api.Answer{Err: api.ErrKind}, true
		}
		return trial.Access{}, api.Answer{Val: results[len(results)-1]}, true
	}
	calls := []api.Call{{Thread: 0, A: 3}, {Thread: 1, A: 4}, {Thread: 0, Kind: 1, A: 5}, {Thread: 1, Kind: 2}, {Thread: 0, Kind: 1, A: 1}}
	w, ok := trial.Play(2, 2, calls, []int{0, 1, 0, 0, 1, 0, 1, 0}, next)
	want := api.Report{
		Events: []api.Event{
			{Call: 0, Inv: 1, Resp: 1, Steps: 1, Answer: api.Answer{Val: 1}},
			{Call: 1, Inv: 2, Resp: 2, Steps: 1},
			{Call: 2, Inv: 3, Resp: 6, Steps: 3, Answer: api.Answer{Val: 5}},
			{Call: 3, Inv: 5, Resp: 5, Steps: 1, Answer: api.Answer{Err: api.ErrKind}},
			{Call: 4, Inv: 7, Steps: 1},
		},
		Words:  []uint64{9, 6},
		Counts: api.Counts{Read: 1, Write: 1, Swap: 2, Add: 2},
		Ticks:  7,
		Idle:   1,
	}
	if !ok || !trial.SameReport(w.Report, want) || len(w.Made) != 5 {
		t.Fatalf("%v, %v; want %v", w, ok, want)
	}
	if l := trial.Results(w.Made[2]); !slices.Equal(l, []uint64{0, 0, 5}) || w.Made[2][2].Tick != 6 || len(w.Made[3]) != 0 {
		t.Error(w.Made)
	}
	if w, ok := trial.Play(0, 1, nil, nil, next); ok || len(w.Report.Words) != 0 {
		t.Error(w)
	}
}

// A play that is made access by access from words that are not 0, which it does
// not change.
func TestPlayFrom(t *testing.T) {
	words := []uint64{5, 6}
	next := trial.Straight(func(c api.Call, access func(trial.Access) uint64) api.Answer {
		return api.Answer{Val: access(trial.Access{Kind: 'C', At: 1, X: 6, Y: c.A})}
	})
	w, ok := trial.PlayFrom(1, words, []api.Call{{A: 7}, {A: 8}}, []int{0, 0}, next)
	if !ok || !slices.Equal(w.Report.Words, []uint64{5, 7}) || w.Report.Events[0].Answer.Val != 1 || w.Report.Events[1].Answer.Val != 0 {
		t.Error(w, ok)
	}
	if !slices.Equal(words, []uint64{5, 6}) {
		t.Error(words)
	}
	if w, ok := trial.PlayFrom(0, words, nil, nil, next); ok || len(w.Report.Words) != 0 {
		t.Error(w)
	}
}

// A program that is written straight on makes the same play as one that is told
// access by access, and goes on with the results of its accesses.
func TestStraight(t *testing.T) {
	next := trial.Straight(func(c api.Call, access func(trial.Access) uint64) api.Answer {
		if c.Kind != 0 {
			return api.Answer{Err: api.ErrKind}
		}
		var sum uint64
		for at := range 2 {
			sum += access(trial.Access{Kind: 'R', At: at})
		}
		if sum > 3 {
			access(trial.Access{Kind: 'W', At: 0, X: 9})
		}
		access(trial.Access{Kind: 'A', At: 1, X: sum + c.A})
		return api.Answer{Val: sum}
	})
	calls := []api.Call{{A: 4}, {A: 1}, {Kind: 1}, {}}
	w, ok := trial.Play(1, 2, calls, make([]int, 9), next)
	want := api.Report{
		Events: []api.Event{
			{Call: 0, Inv: 1, Resp: 3, Steps: 3},
			{Call: 1, Inv: 4, Resp: 7, Steps: 4, Answer: api.Answer{Val: 4}},
			{Call: 2, Inv: 8, Resp: 8, Steps: 1, Answer: api.Answer{Err: api.ErrKind}},
			{Call: 3, Inv: 9, Steps: 1},
		},
		Words:  []uint64{9, 9},
		Counts: api.Counts{Read: 5, Write: 1, Add: 2},
		Ticks:  9,
	}
	if !ok || !trial.SameReport(w.Report, want) {
		t.Errorf("%v, %v; want %v", w, ok, want)
	}
}

// A course picks threads for steps, and for whole calls.
func TestCourse(t *testing.T) {
	calls := []api.Call{{Thread: 0}, {Thread: 1, Kind: 1}, {Thread: 0, Kind: 9}, {Thread: 0}}
	c, ok := trial.NewCourse(2, calls, tally.New())
	if !ok {
		t.Fatal("no course")
	}
	c.Step(1, 1)
	if !c.Finish(0) || !c.Finish(0) || !slices.Equal(c.Picks, []int{1, 0, 0, 0}) {
		t.Error(c.Picks)
	}
	c.Step(0, 1)
	if !c.Finish(1) || !c.Finish(0) || !slices.Equal(c.Picks, []int{1, 0, 0, 0, 0, 1, 0}) {
		t.Error(c.Picks)
	}
	if c.Finish(0) || c.Finish(1) || len(c.Picks) != 7 {
		t.Error(c.Picks)
	}
	if _, ok := trial.NewCourse(0, nil); ok {
		t.Error("a course without threads")
	}
}

// Calls are of operations that exist, by threads that exist; spoiled ones differ
// somewhere, and picks are as many as are asked for.
func TestObjects(t *testing.T) {
	number := trial.Numbers(5)
	specs := trial.SomeSpecs(number, 5)
	calls := trial.CallsOn(number, 3, specs, 200)
	if len(specs) != 5 || len(calls) != 200 {
		t.Fatal(len(specs), len(calls))
	}
	seen := [3]int{}
	for _, c := range calls {
		seen[c.Thread]++
		if c.Obj < 0 || c.Obj >= 5 || c.Kind < 0 || c.Kind >= table.Kinds(specs[c.Obj]) {
			t.Error(c)
		}
	}
	if min(seen[0], seen[1], seen[2]) < 20 {
		t.Error(seen)
	}
	given := slices.Clone(calls)
	if spoiled := trial.Spoiled(number, calls); slices.Equal(spoiled, given) || !slices.Equal(calls, given) {
		t.Error(spoiled)
	}
	picks := trial.Bursts(number, 3, 100)
	if len(picks) != 100 || slices.Min(picks) != 0 || slices.Max(picks) != 2 || len(trial.Bursts(number, 3, 0)) != 0 {
		t.Error(picks)
	}
}

// Any object exists for every number of threads, and all Kinds of them come.
func TestAnySpec(t *testing.T) {
	number := trial.Numbers(6)
	seen := [10]int{}
	for range 2000 {
		s := trial.AnySpec(number)
		for n := 1; n <= api.MaxThreads; n++ {
			if _, e := table.Size(n, s); e != api.OK {
				t.Fatalf("%d threads, %v: %v", n, s, e)
			}
		}
		seen[s.Kind]++
	}
	if slices.Min(seen[:]) < 100 {
		t.Error(seen)
	}
}

// Calls have the bounds of their operations; one that is refused at once makes a step.
func TestMostSteps(t *testing.T) {
	specs := []api.Spec{{Kind: api.Tally}, {Kind: api.Max, P: 7}}
	for _, x := range []struct {
		c    api.Call
		want int
	}{
		{api.Call{}, 2}, {api.Call{Kind: 1}, 5}, {api.Call{Obj: 1}, 7},
		{api.Call{Kind: 2}, 1}, {api.Call{Kind: -1}, 1}, {api.Call{Obj: 2}, 1}, {api.Call{Obj: -1}, 1},
	} {
		if most := trial.MostSteps(5, specs, x.c); most != x.want {
			t.Errorf("%v: %d; want %d", x.c, most, x.want)
		}
	}
}
