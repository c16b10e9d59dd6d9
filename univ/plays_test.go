package univ_test

import (
	"slices"
	"testing"

	"roundelay/api"
	"roundelay/seq"
	"roundelay/trial"
)

// 18.1 to 18.7: all plays of a few threads, each one also with picks after it
// with which all operations respond. A thread may make several steps for each
// pick of a row, so that it puts many operations into the log.
func TestAllPlays(t *testing.T) {
	var seen tale
	for _, q := range []struct {
		n, p, q, picks int
		bursts         []int
		calls          []api.Call
	}{
		{1, 2, 3, 14, []int{1}, []api.Call{call(0, 0, 5), call(0, 3, 1), call(0, 0, 6), call(0, 1, 0), call(0, 1, 0), call(0, 2, 0)}},
		{2, 1, 4, 13, []int{1, 1}, []api.Call{call(0, 1, 5), call(1, 1, 7), call(1, 0, 0), call(0, 1, 9), call(0, 0, 0)}},
		{2, 3, 3, 12, []int{1, 2}, []api.Call{call(0, 1, 0), call(1, 0, 7), call(1, 0, 8), call(0, 2, 0), call(1, 1, 0)}},
		{2, 6, 2, 12, []int{1, 1}, []api.Call{call(0, 1, 3), call(1, 1, 4), call(1, 1, 4<<16+5), call(0, 1, 3<<16+5)}},
		{2, 4, 6, 11, []int{1, 5}, []api.Call{call(0, 1, 7), call(1, 1, 7), call(1, 2, 7), call(1, 1, 64), call(1, 0, 7), call(0, 2, 7)}},
		{2, 0, 1, 12, []int{1, 1}, []api.Call{call(0, 1, 7), call(1, 1, 8), call(0, 0, 0), call(1, 0, 0)}},
		{3, 7, 5, 8, []int{1, 2, 3}, []api.Call{call(0, 1, 1<<24+1), call(1, 1, 1<<24+2), call(2, 1, 1<<24+3), call(0, 0, 1), call(1, 0, 1), call(2, 0, 8)}},
		{3, 5, 3, 8, []int{1, 3, 4}, []api.Call{call(0, 1, 1), call(1, 1, 3), call(2, 1, 2), call(2, 1, 4), call(1, 0, 0), {Thread: 1, Obj: 1}}},
		{4, 2, 6, 6, []int{1, 3, 4, 5}, []api.Call{call(0, 0, 1), call(1, 0, 3), call(2, 1, 0), call(3, 0, 4), call(3, 1, 0), call(2, 1, 1<<32), call(1, 2, 0)}},
	} {
		rest := slices.Repeat(threads(q.n), (4*q.q+1)*len(q.calls))
		for row := range trial.Rows(q.n, q.picks) {
			var picks []int
			for _, p := range row {
				picks = append(picks, turns(p, q.bursts[p])...)
			}
			seen.play(t, q.n, q.p, q.q, q.calls, picks)
			seen.play(t, q.n, q.p, q.q, q.calls, append(picks, rest...))
		}
	}
	if seen.helped < 1000 || seen.lost < 1000 || seen.full < 1000 || seen.late < 1000 {
		t.Errorf("too few plays of a kind: %v", seen)
	}
}

// threads is the list of all threads.
func threads(n int) []int {
	var l []int
	for p := range n {
		l = append(l, p)
	}
	return l
}

// 18.1 to 18.7: long plays of many threads; in some of them thread 0 makes few
// steps, so that it is helped.
func TestLongPlays(t *testing.T) {
	var seen tale
	for seed := range 240 {
		next := trial.Numbers(uint64(seed))
		n, p, q := 1+next(api.MaxThreads), seed%8, 1+next(60)
		if seed%3 == 0 {
			n = 1 + next(4)
		}
		var calls []api.Call
		for range next(120) {
			c := call(next(n), next(seq.Kinds(p)), argument(p, next))
			switch next(40) {
			case 0:
				c.Kind = 3
			case 1:
				c.Obj = 1
			case 2:
				c.A += 1 << 32
			}
			calls = append(calls, c)
		}
		var picks []int
		for range next(600) {
			thread, times := next(n+1), 1
			if thread > 0 {
				times += next(1 + 8*(seed%2))
			}
			picks = append(picks, turns(thread, times)...)
		}
		seen.play(t, n, p, q, calls, picks)
	}
	if seen.helped < 100 || seen.lost < 100 || seen.full < 100 {
		t.Errorf("too few plays of a kind: %v", seen)
	}
}

// argument is an argument with which an operation of a type mostly has no error.
func argument(p int, next func(below int) int) uint64 {
	switch p {
	case 4:
		return uint64(next(65))
	case 6:
		return uint64(next(3)<<16 + next(3))
	case 7:
		return uint64(next(9)) << (24 * next(2))
	}
	return uint64(next(1 << 31))
}

// tale is what came about in plays.
type tale struct {
	helped int // operations that another thread put into the log
	lost   int // accesses C that did not succeed
	full   int // operations that found the log full
	late   int // operations whose entry was the last one that is possible
}

// play checks a play against the accesses of the chapter, and all that follows
// from them.
func (s *tale) play(t *testing.T, n, p, q int, calls []api.Call, picks []int) {
	t.Helper()
	r := play(t, n, p, q, calls, picks)
	walk, ok := trial.Play(n, n+q, calls, picks, described(n, p, q))
	if !ok {
		t.Fatalf("no play of %v", calls)
	}
	entered := s.enteredIn(walk, calls, n)
	for i := range walk.Report.Events {
		x := &walk.Report.Events[i]
		own, announced := ownOf(walk.Made[i])
		entry, inLog := entered[own]
		switch {
		case announced && inLog:
			x.Key = []int{2 * entry.Tick}
		case announced && x.Resp != 0:
			x.Key = []int{2 * x.Resp, 1}
			s.full++
		case x.Resp != 0:
			x.Key = []int{2 * x.Resp}
		}
	}
	if !trial.SameReport(r, walk.Report) {
		t.Errorf("want %v", walk.Report)
	}
	checkSteps(t, q, r)
	s.checkEntries(t, n, walk, entered)
	checkLog(t, n, calls, r)
	checkOneByOne(t, p, q, calls, r)
	if t.Failed() {
		t.Fatalf("%d threads, type %d, %d entries, %v of %v: %v", n, p, q, picks, calls, r)
	}
}

// ownOf is the word that an operation announced, if it has.
func ownOf(made []trial.Made) (uint64, bool) {
	if len(made) == 0 {
		return 0, false
	}
	return made[0].X, true
}

// enteredIn is the accesses that put words into the log, by these words.
func (s *tale) enteredIn(walk trial.Walk, calls []api.Call, n int) map[uint64]trial.Made {
	entered := map[uint64]trial.Made{}
	for i, made := range walk.Made {
		for _, a := range made {
			switch {
			case a.Kind != 'C':
			case a.Result == 0:
				s.lost++
			default:
				entered[a.Y] = a
				if int(a.Y>>40%16) != calls[walk.Report.Events[i].Call].Thread {
					s.helped++
				}
			}
		}
	}
	return entered
}

// private is what a thread knows of the object.
type private struct {
	announced int
	applied   int
	state     []uint64
	last      []uint64
}

// described is how the calls on a universal object go on, as the chapter tells
// it.
func described(n, p, q int) trial.Next {
	known := make([]private, n)
	for thread := range known {
		known[thread] = private{state: seq.New(p), last: make([]uint64, n)}
	}
	var after private
	next := trial.Straight(func(c api.Call, access func(trial.Access) uint64) api.Answer {
		after = known[c.Thread]
		after.last = slices.Clone(after.last)
		switch {
		case c.Obj != 0:
			return api.Answer{Err: api.ErrObj}
		case c.Kind < 0 || c.Kind >= seq.Kinds(p):
			return api.Answer{Err: api.ErrKind}
		case c.A >= 1<<32:
			return api.Answer{Err: api.ErrRange}
		}
		after.announced++
		own := word(c.Thread, c.Kind, after.announced, c.A)
		access(trial.Access{Kind: 'W', At: c.Thread, X: own})
		for k := after.applied; k < q; k++ {
			y := agree(n, k, own, after.last, access)
			if y == 0 {
				// No entry is free then, except while results are not known yet.
				return api.Answer{}
			}
			var a api.Answer
			after.state, a = seq.Apply(p, after.state, int(y>>32%256), y%(1<<32))
			after.last[y>>40%16] = y >> 44
			after.applied++
			if y == own {
				return a
			}
		}
		return api.Answer{Err: api.ErrFull}
	})
	return func(c api.Call, results []uint64) (trial.Access, api.Answer, bool) {
		a, answer, done := next(c, results)
		if done {
			known[c.Thread] = after
		}
		return a, answer, done
	}
}

// agree makes the accesses that find out what the entry k is.
func agree(n, k int, own uint64, last []uint64, access func(trial.Access) uint64) uint64 {
	y := access(trial.Access{Kind: 'R', At: n + k})
	if y != 0 {
		return y
	}
	h := k % n
	x := access(trial.Access{Kind: 'R', At: h})
	if x == 0 || x>>44 <= last[h] {
		x = own
	}
	if access(trial.Access{Kind: 'C', At: n + k, Y: x}) == 1 {
		return x
	}
	return access(trial.Access{Kind: 'R', At: n + k})
}

// checkSteps checks how many steps operations make (18.6).
func checkSteps(t *testing.T, q int, r api.Report) {
	t.Helper()
	for _, x := range r.Events {
		if x.Steps > 4*q+1 || x.Resp == 0 && x.Steps == 4*q+1 {
			t.Errorf("%v: too many steps", x)
		}
	}
}

// checkEntries checks how far from the end of the log operations get into it
// (18.5).
func (s *tale) checkEntries(t *testing.T, n int, walk trial.Walk, entered map[uint64]trial.Made) {
	t.Helper()
	for i, made := range walk.Made {
		own, announced := ownOf(made)
		entry, inLog := entered[own]
		if !announced || !inLog {
			continue
		}
		before := 0
		for _, a := range entered {
			if a.Tick < made[0].Tick {
				before++
			}
		}
		if entry.At < n+before || entry.At > n+before+n {
			t.Errorf("%v: entry %d of a log that had %d", walk.Report.Events[i], entry.At-n, before)
		}
		if entry.At == n+before+n {
			s.late++
		}
	}
}

// checkLog checks whose operations are in the log (18.7).
func checkLog(t *testing.T, n int, calls []api.Call, r api.Report) {
	t.Helper()
	free := false
	last := make([]uint64, n)
	for k, y := range r.Words[n:] {
		free = free || y == 0
		if !free && y>>44 <= last[y>>40%16] || free && y != 0 {
			t.Errorf("the entry %d: %x", k, y)
		}
		if free {
			continue
		}
		last[y>>40%16] = y >> 44
		if !slices.ContainsFunc(r.Events, func(x api.Event) bool {
			c := calls[x.Call]
			return c.Thread == int(y>>40%16) && c.Kind == int(y>>32%256) && c.A == y%(1<<32)
		}) {
			t.Errorf("the entry %d: nobody has invoked %x", k, y)
		}
	}
}

// checkOneByOne executes the operations in the order of their keys, at one
// moment each (18.4).
func checkOneByOne(t *testing.T, p, q int, calls []api.Call, r api.Report) {
	t.Helper()
	l, ok := trial.InOrder(r)
	if !ok {
		t.Error("a key at another time")
	}
	state, executed := seq.New(p), 0
	for _, x := range l {
		var want api.Answer
		switch c := calls[x.Call]; {
		case c.Obj != 0:
			want.Err = api.ErrObj
		case c.Kind < 0 || c.Kind >= seq.Kinds(p):
			want.Err = api.ErrKind
		case c.A >= 1<<32:
			want.Err = api.ErrRange
		case executed == q:
			want.Err = api.ErrFull
		default:
			executed++
			state, want = seq.Apply(p, state, c.Kind, c.A)
		}
		if x.Resp != 0 && !trial.SameAnswer(x.Answer, want) {
			t.Errorf("%v: want %v", x, want)
		}
	}
}
