package split_test

import (
	"slices"
	"testing"

	"roundelay/api"
	"roundelay/trial"
)

// 39.1 to 39.4: all plays of a few threads, and what the chapter says of each; where a
// pick stands for several steps, threads get further.
func TestAllPlays(t *testing.T) {
	for _, q := range []struct {
		n, picks, times int
		calls           []api.Call
	}{
		{1, 6, 1, []api.Call{{}, {Kind: 1}, {}}},
		{2, 14, 1, each(2)},
		{2, 12, 1, []api.Call{{Kind: -1}, {Thread: 1}, {}, {Thread: 1, Kind: 1}, {}, {Thread: 1}, {Obj: 1}}},
		{3, 10, 1, each(3)},
		{3, 10, 2, each(3)},
		{3, 7, 3, []api.Call{{}, {}, {Thread: 2}, {Thread: 1}, {Thread: 2, Kind: 2}, {Thread: 2}}},
		{4, 7, 2, each(4)},
	} {
		for row := range trial.Rows(q.n, q.picks) {
			var picks []int
			for _, p := range row {
				picks = append(picks, slices.Repeat([]int{p}, q.times)...)
			}
			checkPlay(t, q.n, q.calls, picks)
		}
	}
}

// 39.1 to 39.4: long plays of many threads, some of whose calls are wrong.
func TestLongPlays(t *testing.T) {
	deepest := 0
	for seed := range 1500 {
		number := trial.Numbers(uint64(seed))
		n := 1 + number(api.MaxThreads)
		calls := each(n)
		for range number(20) {
			calls = append(calls, api.Call{Thread: number(n), Kind: number(20) / 19})
		}
		for i := len(calls) - 1; i > 0; i-- {
			j := number(i + 1)
			calls[i], calls[j] = calls[j], calls[i]
		}
		calls = trial.Spoiled(number, calls)
		picks := trial.Bursts(number, n+1, number(600))
		if seed%2 == 0 {
			picks = picks[:0]
			for range number(600) {
				picks = append(picks, number(n))
			}
		}
		for _, x := range checkPlay(t, n, calls, picks).Events {
			deepest = max(deepest, x.Steps)
		}
	}
	if deepest < 4*8 {
		t.Errorf("no operation made more than %d steps", deepest)
	}
}

// named is the C of calls whose thread has taken a name before; operations ignore it.
const named = 1

// checkPlay checks a play against the accesses of the chapter, and all that follows
// from them; and that each operation responds if the threads are picked often enough.
func checkPlay(t *testing.T, n int, calls []api.Call, picks []int) api.Report {
	t.Helper()
	calls = marked(calls)
	r := play(t, n, calls, picks)
	w, ok := trial.Play(n, words(n), calls, picks, described(n))
	if !ok {
		t.Fatalf("no play of %v", calls)
	}
	for i := range w.Report.Events {
		if x := &w.Report.Events[i]; x.Resp != 0 {
			x.Key = []int{2 * x.Resp}
		}
	}
	if !trial.SameReport(r, w.Report) {
		t.Errorf("want %v", w.Report)
	}
	checkNames(t, calls, r)
	ended := play(t, n, calls, slices.Concat(picks, toTheEnd(n, calls)))
	checkNames(t, calls, ended)
	for _, x := range ended.Events {
		if x.Resp == 0 {
			t.Errorf("%v: has not responded", x)
		}
	}
	if t.Failed() {
		t.Fatalf("%d threads, %v of %v: %v; %v", n, picks, calls, r, ended)
	}
	return r
}

// marked returns the calls, those marked that are of a thread with a name.
func marked(calls []api.Call) []api.Call {
	l := slices.Clone(calls)
	has := [api.MaxThreads]bool{}
	for i, c := range l {
		l[i].C = 0
		if c.Obj == 0 && c.Kind == 0 {
			if has[c.Thread] {
				l[i].C = named
			}
			has[c.Thread] = true
		}
	}
	return l
}

// toTheEnd makes picks after which each call has responded: the threads are picked one
// after the other, each for one operation that takes a name, and all that are refused.
func toTheEnd(n int, calls []api.Call) []int {
	var picks []int
	for p := range n {
		steps := 4 * n
		for _, c := range calls {
			if c.Thread == p {
				steps++
			}
		}
		picks = append(picks, slices.Repeat([]int{p}, steps)...)
	}
	return picks
}

// described is how the calls on a grid go on, as the chapter tells it.
func described(n int) trial.Next {
	// The names go along the diagonals, in each of them from the row 0 on.
	names := map[[2]int]int{}
	for d := range n {
		for r := range d + 1 {
			names[[2]int{r, d - r}] = len(names)
		}
	}
	return trial.Straight(func(c api.Call, access func(trial.Access) uint64) api.Answer {
		switch {
		case c.Obj != 0:
			return api.Answer{Err: api.ErrObj}
		case c.Kind != 0:
			return api.Answer{Err: api.ErrKind}
		case c.C == named:
			return api.Answer{Err: api.ErrState}
		}
		own := uint64(c.Thread + 1)
		row, column := 0, 0
		for row+column < n {
			name := names[[2]int{row, column}]
			access(trial.Access{Kind: 'W', At: 2 * name, X: own})
			if access(trial.Access{Kind: 'R', At: 2*name + 1}) != 0 {
				column++
				continue
			}
			access(trial.Access{Kind: 'W', At: 2*name + 1, X: 1})
			if access(trial.Access{Kind: 'R', At: 2 * name}) == own {
				return api.Answer{Val: uint64(name)}
			}
			row++
		}
		return api.Answer{Err: api.ErrFull} // there is no such splitter
	})
}

// checkNames checks that no two threads have the same name (39.3), and, for all threads
// that have begun when an operation has responded, how great its name is, how many steps
// it has made, and that it has made no access to a word that the grid does not have (39.4).
func checkNames(t *testing.T, calls []api.Call, r api.Report) {
	t.Helper()
	taken := map[uint64]int{}
	for _, x := range r.Events {
		c := calls[x.Call]
		if c.Obj != 0 || c.Kind != 0 || c.C == named {
			continue
		}
		k := begunBy(calls, r, x)
		if x.Steps > 4*k {
			t.Errorf("%v: more than %d steps", x, 4*k)
		}
		if x.Resp == 0 {
			continue
		}
		if x.Answer.Err != api.OK || x.Answer.Val >= uint64(k*(k+1)/2) {
			t.Errorf("%v: no name of %d threads", x, k)
		}
		taken[x.Answer.Val]++
		if taken[x.Answer.Val] > 1 {
			t.Errorf("%v: the name of another thread", x)
		}
	}
	if r.Counts.Fault != 0 {
		t.Error(r.Counts)
	}
}

// begunBy returns how many threads had begun to take a name at the last step that an
// operation could have made so far.
func begunBy(calls []api.Call, r api.Report, x api.Event) int {
	last := x.Resp
	if last == 0 {
		last = r.Ticks
	}
	k := 0
	for _, y := range r.Events {
		if c := calls[y.Call]; c.Obj == 0 && c.Kind == 0 && c.C != named && y.Inv <= last {
			k++
		}
	}
	return k
}
