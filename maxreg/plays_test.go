package maxreg_test

import (
	"slices"
	"testing"

	"roundelay/api"
	"roundelay/trial"
)

// 10.1 to 10.7: all plays of a few threads, and what the chapter says of each.
func TestAllPlays(t *testing.T) {
	for _, q := range []struct {
		n, m, picks int
		calls       []api.Call
	}{
		{1, 3, 12, []api.Call{writing(0, 2), {Kind: 2}, writing(0, 8), writing(0, 5), reading(0)}},
		{2, 1, 10, []api.Call{writing(0, 1), reading(0), reading(0), reading(1), writing(1, 0), reading(1), writing(1, 1)}},
		{2, 2, 12, []api.Call{writing(0, 1), writing(1, 2), reading(0), reading(1), writing(0, 3), writing(1, 0)}},
		{2, 3, 13, []api.Call{writing(0, 2), writing(0, 5), reading(0), writing(1, 6), reading(1), writing(1, 4)}},
		{2, 3, 13, []api.Call{reading(0), reading(0), reading(0), writing(1, 1), writing(1, 3), writing(1, 4), writing(1, 7)}},
		{3, 1, 7, []api.Call{writing(0, 1), writing(1, 0), reading(2), reading(2), writing(2, 1), {Obj: 1}, reading(1)}},
		{3, 2, 9, []api.Call{writing(0, 1), writing(1, 2), reading(2), writing(2, 4), reading(2), reading(0), writing(1, 3)}},
		{3, 2, 9, []api.Call{writing(0, 3), writing(1, 2), writing(2, 0), reading(2), reading(1), reading(0)}},
		{3, 3, 9, []api.Call{writing(0, 6), writing(1, 7), writing(2, 4)}},
		{4, 2, 7, []api.Call{writing(0, 1), writing(1, 2), reading(2), reading(3), writing(3, 3)}},
	} {
		for picks := range trial.Rows(q.n, q.picks) {
			checkPlay(t, q.n, q.m, q.calls, picks)
		}
	}
}

// 10.1 to 10.7: long plays of many threads, with numbers that grow or not.
func TestLongPlays(t *testing.T) {
	for seed := range 120 {
		next := trial.Numbers(uint64(seed))
		n, m := 1+next(api.MaxThreads), 1+next(12)
		var calls []api.Call
		for i := range next(200) {
			top := 1<<m + 1
			if seed%2 == 0 {
				top = min(top, i+2)
			}
			c := api.Call{Thread: next(n), Obj: next(60) / 59, Kind: next(3) / 2, A: uint64(next(top))}
			calls = append(calls, c)
		}
		var picks []int
		for range next(1500) {
			picks = append(picks, next(n+1))
		}
		checkPlay(t, n, m, calls, picks)
	}
}

// checkPlay checks a play against the accesses and the keys of the chapter, and
// all that follows from them.
func checkPlay(t *testing.T, n, m int, calls []api.Call, picks []int) {
	t.Helper()
	r := play(t, n, m, calls, picks)
	next := func(c api.Call, results []uint64) (trial.Access, api.Answer, bool) {
		return described(m, c, results)
	}
	w, ok := trial.Play(n, 1<<m-1, calls, picks, next)
	if !ok {
		t.Fatalf("no play of %v", calls)
	}
	putKeys(w, m, calls)
	if !trial.SameReport(r, w.Report) {
		t.Errorf("want %v", w.Report)
	}
	checkNumbers(t, m, calls, r)
	checkReads(t, calls, r)
	checkOneByOne(t, m, calls, r)
	if t.Failed() {
		t.Fatalf("%d bits, %v of %v: %v", m, picks, calls, r)
	}
}

// turn is a switch at which an operation went left or right.
type turn struct {
	number int
	right  bool
}

// track is how an operation goes, as far as the results of its accesses tell.
type track struct {
	turns []turn
	ended bool
	reads int // how many accesses are on the way down
}

// refusal is the error with which a call responds without an access.
func refusal(m int, c api.Call) api.Errno {
	switch {
	case c.Obj != 0:
		return api.ErrObj
	case c.Kind != 0 && c.Kind != 1:
		return api.ErrKind
	case c.Kind == 0 && c.A >= 1<<m:
		return api.ErrRange
	}
	return api.OK
}

// trackOf follows the way down of an operation from the switch 1 on.
func trackOf(m int, c api.Call, results []uint64) track {
	var d track
	k := 1
	for i := m - 1; i >= 0; i-- {
		right := c.Kind == 0 && c.A&(1<<i) != 0
		if !right {
			if d.reads == len(results) {
				return d
			}
			result := results[d.reads]
			d.reads++
			if c.Kind == 0 && result == 1 {
				break
			}
			right = result == 1
		}
		d.turns = append(d.turns, turn{number: k, right: right})
		k *= 2
		if right {
			k++
		}
	}
	d.ended = true
	return d
}

// described is an operation as the chapter describes it.
func described(m int, c api.Call, results []uint64) (trial.Access, api.Answer, bool) {
	if e := refusal(m, c); e != api.OK {
		return trial.Access{}, api.Answer{Err: e}, true
	}
	d := trackOf(m, c, results)
	if !d.ended {
		k := 1
		if len(d.turns) > 0 {
			last := d.turns[len(d.turns)-1]
			k = 2 * last.number
			if last.right {
				k++
			}
		}
		return trial.Access{Kind: 'R', At: k - 1}, api.Answer{}, false
	}
	if c.Kind == 1 {
		var val uint64
		for _, result := range results {
			val = 2*val + result
		}
		return trial.Access{}, api.Answer{Val: val}, true
	}
	written := len(results) - d.reads
	for _, x := range slices.Backward(d.turns) {
		if !x.right {
			continue
		}
		if written == 0 {
			return trial.Access{Kind: 'W', At: x.number - 1, X: 1}, api.Answer{}, false
		}
		written--
	}
	return trial.Access{}, api.Answer{}, true
}

// putKeys puts the keys into the events of a walk.
func putKeys(w trial.Walk, m int, calls []api.Call) {
	set := map[int]int{} // the set ticks, by the numbers of the switches
	for _, l := range w.Made {
		for _, a := range l {
			if before, ok := set[a.At+1]; a.Kind == 'W' && (!ok || a.Tick < before) {
				set[a.At+1] = a.Tick
			}
		}
	}
	for i := range w.Report.Events {
		x := &w.Report.Events[i]
		c := calls[x.Call]
		if refusal(m, c) != api.OK {
			x.Key = []int{2 * x.Resp}
			continue
		}
		if d := trackOf(m, c, trial.Results(w.Made[i])); tookEffect(*x, c, d, set) {
			x.Key = keyOf(x.Inv, d, w.Made[i], set)
		}
	}
}

// tookEffect tells whether an operation has a key.
func tookEffect(x api.Event, c api.Call, d track, set map[int]int) bool {
	if x.Resp != 0 {
		return true
	}
	unset := func(t turn) bool { return t.right && set[t.number] == 0 }
	return c.Kind == 0 && d.ended && !slices.ContainsFunc(d.turns, unset)
}

// keyOf is the key of an operation that took effect. (Set ticks that come after
// its response are no reason for a number of its key.)
func keyOf(inv int, d track, made []trial.Made, set map[int]int) []int {
	p := inv
	if d.reads > 0 {
		p = made[d.reads-1].Tick
	}
	back := []int{2 * p} // the last number first
	for _, x := range slices.Backward(d.turns) {
		first := back[len(back)-1]
		s, ok := set[x.number]
		if ok && !x.right && first > 2*s {
			back = append(back, 2*s-1)
		}
		if ok && x.right && first <= 2*s {
			back = append(back, 2*s)
		}
	}
	slices.Reverse(back)
	return back
}

// checkNumbers checks that a read finds no less than every number whose write
// came before it, and a number whose write was invoked (10.5), and that no
// operation makes more than m steps (10.6).
func checkNumbers(t *testing.T, m int, calls []api.Call, r api.Report) {
	t.Helper()
	for _, x := range r.Events {
		if x.Steps > m {
			t.Errorf("%v: too many steps", x)
		}
		if x.Resp == 0 || x.Answer.Err != api.OK || calls[x.Call].Kind != 1 {
			continue
		}
		found := x.Answer.Val == 0
		for _, y := range r.Events {
			d := calls[y.Call]
			if d.Kind != 0 || y.Answer.Err != api.OK {
				continue
			}
			if y.Resp != 0 && y.Resp < x.Inv && x.Answer.Val < d.A {
				t.Errorf("%v: less than %d of %v", x, d.A, y)
			}
			found = found || d.A == x.Answer.Val && y.Inv < x.Resp
		}
		if !found {
			t.Errorf("%v: not written", x)
		}
	}
}

// checkReads checks that no read finds less than one that came before it (10.5).
func checkReads(t *testing.T, calls []api.Call, r api.Report) {
	t.Helper()
	var reads []api.Event
	for _, x := range r.Events {
		if x.Resp != 0 && x.Answer.Err == api.OK && calls[x.Call].Kind == 1 {
			reads = append(reads, x)
		}
	}
	for _, x := range reads {
		for _, y := range reads {
			if x.Resp < y.Inv && x.Answer.Val > y.Answer.Val {
				t.Errorf("%v, and after it %v", x, y)
			}
		}
	}
}

// checkOneByOne executes the operations in the order of their keys, at one
// moment each (10.7).
func checkOneByOne(t *testing.T, m int, calls []api.Call, r api.Report) {
	t.Helper()
	l, ok := trial.InOrder(r)
	if !ok {
		t.Error("a key at another time")
	}
	var number uint64
	for _, x := range l {
		c := calls[x.Call]
		want := api.Answer{Err: refusal(m, c)}
		if want.Err == api.OK && c.Kind == 0 {
			number = max(number, c.A)
		}
		if want.Err == api.OK && c.Kind == 1 {
			want.Val = number
		}
		if x.Resp != 0 && !trial.SameAnswer(x.Answer, want) {
			t.Errorf("%v: want %v", x, want)
		}
	}
}
