package adopt_test

import (
	"slices"
	"testing"

	"roundelay/api"
	"roundelay/trial"
)

// 40.1 to 40.6: all plays of a few threads, and what the chapter says of each; where a
// pick stands for several steps, threads get further.
func TestAllPlays(t *testing.T) {
	seen := map[outcome]int{}
	for _, q := range []struct {
		n, picks, times int
		calls           []api.Call
	}{
		{1, 7, 1, []api.Call{proposal(0, limit), proposal(0, 4), {Kind: 1}, proposal(0, 4)}},
		{2, 13, 1, proposals(4, 6)},
		{2, 13, 1, proposals(0, 0)},
		{2, 12, 1, []api.Call{proposal(1, 0), proposal(1, 0), proposal(0, 1), {Obj: 1}, proposal(0, limit)}},
		{3, 10, 2, proposals(4, 6, 4)},
		{3, 10, 2, proposals(2, 2, 2)},
		{3, 8, 3, proposals(0, 1, 2)},
		{3, 9, 3, []api.Call{proposal(2, 1), proposal(1, 0), proposal(0, 0), {Thread: 1, Kind: -1}, proposal(1, 1), proposal(2, limit)}},
		{4, 7, 5, proposals(3, 3, 4, 3)},
	} {
		for row := range trial.Rows(q.n, q.picks) {
			var picks []int
			for _, p := range row {
				picks = append(picks, slices.Repeat([]int{p}, q.times)...)
			}
			note(seen, q.calls, checkPlay(t, q.n, q.calls, picks))
		}
	}
	checkOutcomes(t, seen)
}

// 40.1 to 40.6: long plays of many threads, some of whose calls are wrong.
func TestLongPlays(t *testing.T) {
	seen := map[outcome]int{}
	for seed := range 3000 {
		number := trial.Numbers(uint64(seed))
		n := 1 + number(api.MaxThreads)
		if seed%2 == 0 {
			n = 1 + number(4)
		}
		values := 1 + number(3)
		var calls []api.Call
		for range number(3 * n) {
			calls = append(calls, proposal(number(n), uint64(number(values))))
			if number(20) == 0 {
				calls[len(calls)-1].A += limit - 1
			}
		}
		if seed%3 != 0 {
			calls = trial.Spoiled(number, calls)
		}
		picks := trial.Bursts(number, n+1, number(40*n))
		note(seen, calls, checkPlay(t, n, calls, picks))
	}
	checkOutcomes(t, seen)
}

// outcome is how a proposal that has responded ended.
type outcome struct {
	agreed, own bool
}

// note counts how the proposals of a play ended.
func note(seen map[outcome]int, calls []api.Call, r api.Report) {
	for _, x := range r.Events {
		if x.Resp != 0 && x.Answer.Err == api.OK {
			seen[outcome{x.Answer.Val%2 == 1, x.Answer.Val/2 == calls[x.Call].A}]++
		}
	}
}

// checkOutcomes checks that proposals ended in each way that there is: no thread that
// agrees on a number has proposed another one.
func checkOutcomes(t *testing.T, seen map[outcome]int) {
	t.Helper()
	for _, o := range []outcome{{true, true}, {false, true}, {false, false}} {
		if seen[o] < 500 {
			t.Errorf("%v: %d times only", o, seen[o])
		}
	}
	if seen[outcome{agreed: true}] != 0 {
		t.Error(seen)
	}
}

// again is the C of calls whose thread has proposed before; operations ignore it.
const again = 1

// checkPlay checks a play against the accesses of the chapter, and all that follows
// from them.
func checkPlay(t *testing.T, n int, calls []api.Call, picks []int) api.Report {
	t.Helper()
	calls = marked(calls)
	r := play(t, n, calls, picks)
	w, ok := trial.Play(n, 2*n, calls, picks, described(n))
	if !ok {
		t.Fatalf("no play of %v", calls)
	}
	for i := range w.Report.Events {
		if x := &w.Report.Events[i]; x.Resp != 0 {
			x.Key = []int{2 * x.Resp}
		}
	}
	if !trial.SameReport(r, w.Report) {
		t.Errorf("want %v", w.Report)
	}
	checkNumbers(t, calls, r)
	checkSteps(t, n, calls, r)
	if t.Failed() {
		t.Fatalf("%d threads, %v of %v: %v", n, picks, calls, r)
	}
	return r
}

// proposes tells whether a call proposes a number, unless its thread has done so before.
func proposes(c api.Call) bool {
	return c.Obj == 0 && c.Kind == 0 && c.A < limit
}

// marked returns the calls, those marked that are of a thread which has proposed.
func marked(calls []api.Call) []api.Call {
	l := slices.Clone(calls)
	has := [api.MaxThreads]bool{}
	for i, c := range l {
		l[i].C = 0
		if proposes(c) {
			if has[c.Thread] {
				l[i].C = again
			}
			has[c.Thread] = true
		}
	}
	return l
}

// described is how the calls on an adopter go on, as the chapter tells it.
func described(n int) trial.Next {
	return trial.Straight(func(c api.Call, access func(trial.Access) uint64) api.Answer {
		switch {
		case c.Obj != 0:
			return api.Answer{Err: api.ErrObj}
		case c.Kind != 0:
			return api.Answer{Err: api.ErrKind}
		case c.A >= limit:
			return api.Answer{Err: api.ErrRange}
		case c.C == again:
			return api.Answer{Err: api.ErrState}
		}
		access(trial.Access{Kind: 'W', At: c.Thread, X: c.A + 1})
		bit := uint64(1)
		for at := range n {
			if x := access(trial.Access{Kind: 'R', At: at}); x != 0 && x != c.A+1 {
				bit = 0
			}
		}
		access(trial.Access{Kind: 'W', At: n + c.Thread, X: 2*(c.A+1) + bit})
		var odd, other []uint64
		for at := range n {
			x := access(trial.Access{Kind: 'R', At: n + at})
			switch {
			case x%2 == 1:
				odd = append(odd, x)
			case x != 0:
				other = append(other, x)
			}
		}
		switch {
		case len(odd) == 0:
			return api.Answer{Val: 2 * c.A}
		case len(other) == 0:
			return api.Answer{Val: odd[0] - 2}
		}
		return api.Answer{Val: odd[0] - 3}
	})
}

// checkNumbers checks that each Val, halved, was proposed (40.3), that, if one Val is
// odd, all others are equal to it, or to it minus 1 (40.4), and that all are odd if all
// threads propose the same number (40.5).
func checkNumbers(t *testing.T, calls []api.Call, r api.Report) {
	t.Helper()
	proposed := map[uint64]int{}
	odd := map[uint64]int{}
	for _, x := range r.Events {
		c := calls[x.Call]
		if !proposes(c) || c.C == again {
			continue
		}
		proposed[c.A]++
		if x.Answer.Val%2 == 1 {
			odd[x.Answer.Val]++
		}
	}
	if len(odd) > 1 {
		t.Errorf("several odd Vals: %v", odd)
	}
	for _, x := range r.Events {
		c := calls[x.Call]
		if !proposes(c) || c.C == again || x.Resp == 0 {
			continue
		}
		v := x.Answer.Val
		if x.Answer.Err != api.OK || proposed[v/2] == 0 {
			t.Errorf("%v: was not proposed", x)
		}
		if len(odd) > 0 && odd[v] == 0 && odd[v+1] == 0 {
			t.Errorf("%v: not that on which another thread agrees", x)
		}
		if len(proposed) == 1 && v%2 == 0 {
			t.Errorf("%v: there is no other number", x)
		}
	}
}

// checkSteps checks how many steps operations make (40.6).
func checkSteps(t *testing.T, n int, calls []api.Call, r api.Report) {
	t.Helper()
	for _, x := range r.Events {
		want := 2*n + 2
		if c := calls[x.Call]; !proposes(c) || c.C == again {
			want = 1
		}
		if x.Steps > want || (x.Resp != 0) != (x.Steps == want) {
			t.Errorf("%v: not %d steps", x, want)
		}
	}
}
