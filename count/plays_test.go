package count_test

import (
	"slices"
	"testing"

	"roundelay/api"
	"roundelay/trial"
)

// 11.1 to 11.4: all plays of a few threads, each one also with picks after it
// with which all operations respond.
func TestAllPlays(t *testing.T) {
	for _, q := range []struct {
		n, m, picks int
		calls       []api.Call
	}{
		{1, 2, 7, []api.Call{counting(0), reading(0), counting(0), {Kind: 2}, counting(0), counting(0), reading(0)}},
		{2, 1, 5, []api.Call{counting(0), reading(1), counting(1), {Kind: 3}, reading(0)}},
		{2, 2, 13, []api.Call{counting(0), counting(1), reading(1), reading(0)}},
		{2, 3, 12, []api.Call{counting(0), counting(0), counting(0), counting(0), reading(1), counting(1), counting(1), reading(1)}},
		{3, 2, 8, []api.Call{counting(0), counting(1), reading(2), counting(2), reading(2), counting(0)}},
		{3, 3, 8, []api.Call{counting(2), counting(0), counting(2), reading(1), counting(1), reading(1), {Obj: 1}}},
		{4, 3, 6, []api.Call{counting(0), counting(1), counting(2), reading(3), counting(3), reading(0)}},
	} {
		rest := slices.Repeat(threads(q.n), 30)
		for picks := range trial.Rows(q.n, q.picks) {
			checkPlay(t, q.n, q.m, q.calls, picks)
			checkPlay(t, q.n, q.m, q.calls, append(picks, rest...))
		}
	}
}

// threads is the list of all threads.
func threads(n int) []int {
	var l []int
	for p := range n {
		l = append(l, p)
	}
	return l
}

// 11.1 to 11.4: long plays of many threads.
func TestLongPlays(t *testing.T) {
	for seed := range 150 {
		next := trial.Numbers(uint64(seed))
		n, m := 1+next(api.MaxThreads), 1+next(8)
		var calls []api.Call
		for range next(150) {
			calls = append(calls, api.Call{Thread: next(n), Obj: next(60) / 59, Kind: next(41) / 20})
		}
		var picks []int
		for range next(6000) {
			picks = append(picks, next(n+1))
		}
		checkPlay(t, n, m, calls, picks)
	}
}

// checkPlay checks a play against the accesses of the chapter, and all that
// follows from them.
func checkPlay(t *testing.T, n, m int, calls []api.Call, picks []int) {
	t.Helper()
	r := play(t, n, m, calls, picks)
	w, ok := trial.Play(n, wordsOf(n, m), calls, picks, described(n, m))
	if !ok {
		t.Fatalf("no play of %v", calls)
	}
	for i := range w.Report.Events {
		if x := &w.Report.Events[i]; x.Resp != 0 {
			x.Key = []int{2 * x.Resp}
		}
	}
	if !trial.SameReport(r, w.Report) {
		t.Errorf("want %v", w.Report)
	}
	checkNumbers(t, calls, r)
	checkSteps(t, n, m, calls, r)
	if t.Failed() {
		t.Fatalf("%d threads, %d bits, %v of %v: %v", n, m, picks, calls, r)
	}
}

// described is how the calls on a counter go on, as the chapter tells it.
func described(n, m int) trial.Next {
	own := make([]uint64, n)
	next := trial.Straight(func(c api.Call, access func(trial.Access) uint64) api.Answer {
		x := counter{n: n, m: m, access: access}
		switch {
		case c.Obj != 0:
			return api.Answer{Err: api.ErrObj}
		case c.Kind == 0 && n*(int(own[c.Thread])+1) > 1<<m-1:
			return api.Answer{Err: api.ErrFull}
		case c.Kind == 0:
			x.count(c.Thread, own[c.Thread]+1)
			return api.Answer{}
		case c.Kind == 1:
			return api.Answer{Val: x.examine(1)}
		}
		return api.Answer{Err: api.ErrKind}
	})
	return func(c api.Call, results []uint64) (trial.Access, api.Answer, bool) {
		a, answer, done := next(c, results)
		if done && c.Kind == 0 && answer.Err == api.OK {
			own[c.Thread]++
		}
		return a, answer, done
	}
}

// counter makes the accesses of the chapter.
type counter struct {
	n, m   int
	access func(trial.Access) uint64
}

// count writes the leaf of a thread, and the nodes above it.
func (x counter) count(thread int, number uint64) {
	x.access(trial.Access{Kind: 'W', At: thread, X: number})
	for v := (leavesOf(x.n) + thread) / 2; v >= 1; v /= 2 {
		left := x.examine(2 * v)
		right := x.examine(2*v + 1)
		x.write(v, left+right)
	}
}

// examine returns what a node has.
func (x counter) examine(v int) uint64 {
	if leaf := v - leavesOf(x.n); leaf >= x.n {
		return 0
	} else if leaf >= 0 {
		return x.access(trial.Access{Kind: 'R', At: leaf})
	}
	k, number := 1, uint64(0)
	for range x.m {
		bit := x.access(trial.Access{Kind: 'R', At: x.at(v, k)})
		k = 2*k + int(bit)
		number = 2*number + bit
	}
	return number
}

// write writes a number to the max register of a node.
func (x counter) write(v int, number uint64) {
	k := 1
	var right []int
	for i := x.m - 1; i >= 0; i-- {
		if number>>i&1 == 1 {
			right = append(right, k)
			k = 2*k + 1
			continue
		}
		if x.access(trial.Access{Kind: 'R', At: x.at(v, k)}) == 1 {
			break
		}
		k *= 2
	}
	for _, k := range slices.Backward(right) {
		x.access(trial.Access{Kind: 'W', At: x.at(v, k), X: 1})
	}
}

// at is the address of a switch of a node.
func (x counter) at(v, k int) int {
	return x.n + (v-1)*(1<<x.m-1) + k - 1
}

// checkNumbers checks that no read misses a count that came before it, nor
// finds one that was not invoked, nor finds less than a read before it (11.3).
func checkNumbers(t *testing.T, calls []api.Call, r api.Report) {
	t.Helper()
	for _, x := range r.Events {
		if x.Resp == 0 || x.Answer.Err != api.OK || calls[x.Call].Kind != 1 {
			continue
		}
		var least, most uint64
		for _, y := range r.Events {
			if y.Answer.Err != api.OK {
				continue
			}
			before := y.Resp != 0 && y.Resp < x.Inv
			switch calls[y.Call].Kind {
			case 0:
				if before {
					least++
				}
				if y.Inv < x.Resp {
					most++
				}
			case 1:
				if before && y.Answer.Val > x.Answer.Val {
					t.Errorf("%v, and after it %v", y, x)
				}
			}
		}
		if x.Answer.Val < least || x.Answer.Val > most {
			t.Errorf("%v: not from %d to %d", x, least, most)
		}
	}
}

// checkSteps checks how many steps operations make (11.4).
func checkSteps(t *testing.T, n, m int, calls []api.Call, r api.Report) {
	t.Helper()
	ofRead := m
	if n == 1 {
		ofRead = 1
	}
	for _, x := range r.Events {
		switch c := calls[x.Call]; {
		case x.Answer.Err != api.OK:
			if x.Steps != 1 {
				t.Errorf("%v: not one step", x)
			}
		case c.Kind == 1:
			if x.Steps > ofRead || (x.Resp != 0) != (x.Steps == ofRead) {
				t.Errorf("%v: not %d steps", x, ofRead)
			}
		case x.Steps > stepsOfCount(n, m):
			t.Errorf("%v: too many steps", x)
		}
	}
}
