package pool_test

import (
	"slices"
	"testing"

	"roundelay/api"
	"roundelay/trial"
)

// 13.1 to 13.5: all plays of a few threads, and what the chapter says of each.
func TestAllPlays(t *testing.T) {
	for _, q := range []struct {
		n, k, picks int
		calls       []api.Call
	}{
		{1, 2, 12, []api.Call{allocating(0), allocating(0), allocating(0), releasing(0, 2, 1), {Kind: 2}, allocating(0), releasing(0, 4, 1)}},
		{2, 1, 10, []api.Call{allocating(0), allocating(0), releasing(1, 2, 1), releasing(1, 2, 1), allocating(0), releasing(1, 2, 2)}},
		{2, 2, 13, []api.Call{allocating(0), allocating(0), allocating(0), allocating(0), releasing(1, 3, 1), releasing(1, 2, 1), releasing(1, 2, 2)}},
		{2, 2, 12, []api.Call{allocating(0), releasing(0, 4, 1), allocating(1), releasing(1, 2, 1), allocating(0), releasing(0, 4, 1), allocating(1)}},
		{3, 1, 9, []api.Call{allocating(0), releasing(1, 2, 1), releasing(2, 2, 1), allocating(0), allocating(1), {Thread: 2, Obj: 1}, releasing(2, 5, 0), releasing(2, 3, 1)}},
	} {
		for picks := range trial.Rows(q.n, q.picks) {
			checkPlay(t, q.n, q.k, q.calls, picks)
		}
	}
}

// 13.1 to 13.5: long plays of many threads, which release many places that were
// allocated, and some that were not, or do not exist.
func TestLongPlays(t *testing.T) {
	for seed := range 200 {
		next := trial.Numbers(uint64(seed))
		n, k := 1+next(api.MaxThreads), 1+next(32)
		if seed%2 == 0 {
			n, k = 1+next(3), 1+next(3)
		}
		var calls []api.Call
		for range next(300) {
			place, version := uint64(2+next(n*k)), uint64(1+next(3))
			switch next(50) {
			case 0:
				place = uint64(next(1024))
			case 1:
				version = uint64(next(4)) << 39
			}
			c := releasing(next(n), place, version)
			c.Kind, c.Obj = next(41)/20, next(60)/59
			calls = append(calls, c)
		}
		var picks []int
		for range next(3000) {
			picks = append(picks, next(n+1))
		}
		checkPlay(t, n, k, calls, picks)
	}
}

// checkPlay checks a play against the accesses of the chapter, and all that
// follows from them.
func checkPlay(t *testing.T, n, k int, calls []api.Call, picks []int) {
	t.Helper()
	r := play(t, n, k, calls, picks)
	w, ok := trial.Play(n, n*k, calls, picks, described(n, k))
	if !ok {
		t.Fatalf("no play of %v", calls)
	}
	for i := range w.Report.Events {
		if x := &w.Report.Events[i]; x.Resp != 0 {
			x.Key = []int{2 * x.Resp}
		}
	}
	if !trial.SameReport(r, w.Report) {
		t.Errorf("want %v", w.Report)
	}
	checkReferences(t, calls, r)
	checkFull(t, k, calls, r)
	checkSteps(t, k, calls, r)
	if t.Failed() {
		t.Fatalf("%d threads, %d places, %v of %v: %v", n, k, picks, calls, r)
	}
}

// described is how the calls on a pool go on, as the chapter tells it.
func described(n, k int) trial.Next {
	return trial.Straight(func(c api.Call, access func(trial.Access) uint64) api.Answer {
		switch {
		case c.Obj != 0:
			return api.Answer{Err: api.ErrObj}
		case c.Kind == 1:
			i, v := c.A%1024, c.A/1024
			if i < 2 || i > uint64(1+n*k) || v >= 1<<40 {
				return api.Answer{Err: api.ErrRange}
			}
			if access(trial.Access{Kind: 'C', At: int(i) - 2, X: 2*v + 1, Y: 2 * v}) == 0 {
				return api.Answer{Err: api.ErrState}
			}
			return api.Answer{}
		case c.Kind != 0:
			return api.Answer{Err: api.ErrKind}
		}
		for i := 2 + c.Thread*k; i <= 1+(c.Thread+1)*k; i++ {
			x := access(trial.Access{Kind: 'R', At: i - 2})
			if x%2 == 0 {
				access(trial.Access{Kind: 'W', At: i - 2, X: x + 3})
				return api.Answer{Val: ref(uint64(i), (x+3)/2)}
			}
		}
		return api.Answer{Err: api.ErrFull}
	})
}

// checkReferences checks that each reference is allocated once, released at
// most once, and only after it was allocated, and that a place is not allocated
// again before it was released (13.3).
func checkReferences(t *testing.T, calls []api.Call, r api.Report) {
	t.Helper()
	allocated, released := referencesOf(calls, r)
	for _, x := range r.Events {
		c := calls[x.Call]
		switch {
		case x.Resp == 0 || x.Answer.Err != api.OK:
		case c.Kind == 0:
			if allocated[x.Answer.Val] != x.Resp {
				t.Errorf("%v: allocated again", x)
			}
		case allocated[c.A] == 0 || allocated[c.A] > x.Resp || released[c.A] != x.Resp:
			t.Errorf("%v: not allocated, or released again", x)
		}
	}
	for a, tick := range allocated {
		for b, later := range allocated {
			end, ended := released[a]
			if a%1024 == b%1024 && tick < later && (!ended || end > later || b <= a) {
				t.Errorf("%d, and then %d", a, b)
			}
		}
	}
}

// referencesOf returns at which tick each reference was allocated and released:
// the last one, if there were several.
func referencesOf(calls []api.Call, r api.Report) (allocated, released map[uint64]int) {
	allocated, released = map[uint64]int{}, map[uint64]int{}
	for _, x := range r.Events {
		switch c := calls[x.Call]; {
		case x.Resp == 0 || x.Answer.Err != api.OK:
		case c.Kind == 0:
			allocated[x.Answer.Val] = max(allocated[x.Answer.Val], x.Resp)
		default:
			released[c.A] = max(released[c.A], x.Resp)
		}
	}
	return allocated, released
}

// checkFull checks that with ErrFull all places of the thread were allocated
// when the operation was invoked (13.4).
func checkFull(t *testing.T, k int, calls []api.Call, r api.Report) {
	t.Helper()
	allocated, released := referencesOf(calls, r)
	for _, x := range r.Events {
		if x.Answer.Err != api.ErrFull {
			continue
		}
		var places []uint64
		for a, tick := range allocated {
			i := a % 1024
			end, ended := released[a]
			if tick < x.Inv && (!ended || end > x.Inv) && int(i-2)/k == calls[x.Call].Thread {
				places = append(places, i)
			}
		}
		slices.Sort(places)
		if len(slices.Compact(places)) != k {
			t.Errorf("%v: only %v were allocated", x, places)
		}
	}
}

// checkSteps checks how many steps operations make (13.5).
func checkSteps(t *testing.T, k int, calls []api.Call, r api.Report) {
	t.Helper()
	for _, x := range r.Events {
		most := 1
		if c := calls[x.Call]; c.Kind == 0 && c.Obj == 0 {
			most = k + 1
		}
		if x.Steps > most {
			t.Errorf("%v: more than %d steps", x, most)
		}
	}
}
