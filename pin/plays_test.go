package pin_test

import (
	"slices"
	"testing"

	"roundelay/api"
	"roundelay/trial"
)

// 14.1 to 14.6: all plays of a few threads, each one also with picks after it
// with which all operations respond.
func TestAllPlays(t *testing.T) {
	for _, q := range []struct {
		n, w, picks int
		calls       []api.Call
	}{
		{1, 2, 12, []api.Call{reading(0), writing(10), writing(20), {Kind: 2}, reading(0)}},
		{2, 1, 13, []api.Call{writing(10), writing(20), writing(30), reading(1), reading(1), {Thread: 1}}},
		{2, 2, 14, []api.Call{writing(10), writing(20), writing(30), reading(1), reading(1)}},
		{3, 1, 8, []api.Call{writing(10), writing(20), reading(1), reading(2), reading(0), writing(30), reading(1)}},
		{3, 2, 8, []api.Call{writing(10), reading(1), reading(2), {Thread: 1, Obj: 1}, writing(20), writing(30), reading(2)}},
		{4, 1, 6, []api.Call{writing(10), reading(1), reading(2), reading(3), writing(20), writing(30), writing(40)}},
	} {
		rest := slices.Repeat(threads(q.n), 30)
		for picks := range trial.Rows(q.n, q.picks) {
			checkPlay(t, q.n, q.w, q.calls, picks)
			checkPlay(t, q.n, q.w, q.calls, append(picks, rest...))
		}
	}
}

// threads is the list of all threads.
func threads(n int) []int {
	var l []int
	for p := range n {
		l = append(l, p)
	}
	return l
}

// 14.1 to 14.6: long plays of many threads; in some of them thread 0 is picked
// most, so that it often meets readers that stay.
func TestLongPlays(t *testing.T) {
	for seed := range 200 {
		next := trial.Numbers(uint64(seed))
		n, w := 1+next(api.MaxThreads), 1+next(8)
		var calls []api.Call
		for i := range next(250) {
			c := reading(next(n))
			if next(3) == 0 {
				c = writing(uint64(1000 * i))
			}
			switch next(40) {
			case 0:
				c.Kind = 2 * next(2)
			case 1:
				c.Obj = 1
			}
			calls = append(calls, c)
		}
		var picks []int
		for range next(3000) {
			p := next(n + 1)
			if seed%2 == 0 && next(2) == 0 {
				p = 0
			}
			picks = append(picks, p)
		}
		checkPlay(t, n, w, calls, picks)
	}
}

// checkPlay checks a play against the accesses of the chapter, and all that
// follows from them.
func checkPlay(t *testing.T, n, w int, calls []api.Call, picks []int) {
	t.Helper()
	r := play(t, n, w, calls, picks)
	walk, ok := trial.Play(n, wordsOf(n, w), calls, picks, described(n, w))
	if !ok {
		t.Fatalf("no play of %v", calls)
	}
	for i := range walk.Report.Events {
		x := &walk.Report.Events[i]
		switch c := calls[x.Call]; {
		case x.Resp == 0:
		case c.Kind == 1 && x.Answer.Err == api.OK:
			x.Key = []int{2 * x.Inv}
		default:
			x.Key = []int{2 * x.Resp}
		}
	}
	if !trial.SameReport(r, walk.Report) {
		t.Errorf("want %v", walk.Report)
	}
	checkPins(t, n, w, calls, walk)
	checkSteps(t, n, w, calls, r)
	checkOneByOne(t, w, calls, r)
	if t.Failed() {
		t.Fatalf("%d threads, %d words, %v of %v: %v", n, w, picks, calls, r)
	}
}

// described is how the calls on a register go on, as the chapter tells it.
func described(n, w int) trial.Next {
	own := writer{entered: make([]uint64, n+1)}
	var after writer // what becomes of it if the write that is executed is done
	next := trial.Straight(func(c api.Call, access func(trial.Access) uint64) api.Answer {
		switch {
		case c.Obj != 0:
			return api.Answer{Err: api.ErrObj}
		case c.Kind == 0 && c.Thread != 0:
			return api.Answer{Err: api.ErrRole}
		case c.Kind == 0:
			after = own.write(n, w, c.A, access)
			return api.Answer{}
		case c.Kind != 1:
			return api.Answer{Err: api.ErrKind}
		}
		q := int(access(trial.Access{Kind: 'A', At: 0, X: 1}) >> 32)
		var l []uint64
		for i := range w {
			l = append(l, access(trial.Access{Kind: 'R', At: n + 2 + q*w + i}))
		}
		access(trial.Access{Kind: 'A', At: 1 + q, X: 1})
		return api.Answer{List: l}
	})
	return func(c api.Call, results []uint64) (trial.Access, api.Answer, bool) {
		a, answer, done := next(c, results)
		if done && c.Kind == 0 && answer.Err == api.OK {
			own = after
		}
		return a, answer, done
	}
}

// writer is the private data of thread 0.
type writer struct {
	entered []uint64
	last    uint64
	current int
}

// write makes the accesses of a write, and returns the private data after it.
func (o writer) write(n, w int, first uint64, access func(trial.Access) uint64) writer {
	for q := range n + 1 {
		if q == o.current || access(trial.Access{Kind: 'R', At: 1 + q}) != o.entered[q] {
			continue
		}
		for i := range w {
			access(trial.Access{Kind: 'W', At: n + 2 + q*w + i, X: first + uint64(i)})
		}
		d := (uint64(q) - uint64(o.current)) << 32
		low := access(trial.Access{Kind: 'A', At: 0, X: d}) & (1<<32 - 1)
		entered := slices.Clone(o.entered)
		entered[o.current] += low - o.last
		return writer{entered: entered, last: low, current: q}
	}
	return o
}

// checkPins checks that no word of a buffer is written from the tick at which a
// reader enters it to that at which it leaves (14.4).
func checkPins(t *testing.T, n, w int, calls []api.Call, walk trial.Walk) {
	t.Helper()
	for i, x := range walk.Report.Events {
		made := walk.Made[i]
		if calls[x.Call].Kind != 1 || len(made) == 0 {
			continue
		}
		begin := n + 2 + int(made[0].Result>>32)*w
		for _, other := range walk.Made {
			for _, a := range other {
				inside := a.Tick > x.Inv && (x.Resp == 0 || a.Tick < x.Resp)
				if a.Kind == 'W' && inside && a.At >= begin && a.At < begin+w {
					t.Errorf("%v: written by %v", x, a)
				}
			}
		}
	}
}

// checkSteps checks how many steps operations make (14.5).
func checkSteps(t *testing.T, n, w int, calls []api.Call, r api.Report) {
	t.Helper()
	for _, x := range r.Events {
		least, most := 1, 1
		switch c := calls[x.Call]; {
		case x.Answer.Err != api.OK:
		case c.Kind == 0:
			least, most = w+2, n+w+1
		default:
			least, most = w+2, w+2
		}
		if x.Steps > most || x.Resp != 0 && x.Steps < least || x.Resp == 0 && x.Steps == most {
			t.Errorf("%v: not from %d to %d steps", x, least, most)
		}
	}
}

// checkOneByOne executes the operations in the order of their keys, at one
// moment each (14.4, 14.6).
func checkOneByOne(t *testing.T, w int, calls []api.Call, r api.Report) {
	t.Helper()
	l, ok := trial.InOrder(r)
	if !ok {
		t.Error("a key at another time")
	}
	words := make([]uint64, w)
	for _, x := range l {
		var want api.Answer
		switch c := calls[x.Call]; {
		case x.Resp == 0:
			t.Errorf("%v: a key before the response", x)
		case c.Obj != 0:
			want.Err = api.ErrObj
		case c.Kind == 0 && c.Thread != 0:
			want.Err = api.ErrRole
		case c.Kind == 0:
			words = numbers(c.A, w)
		case c.Kind == 1:
			want.List = words
		default:
			want.Err = api.ErrKind
		}
		if !trial.SameAnswer(x.Answer, want) {
			t.Errorf("%v: want %v", x, want)
		}
	}
}
