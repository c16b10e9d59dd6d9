package queue_test

import (
	"slices"
	"testing"

	"roundelay/api"
	"roundelay/trial"
)

// 22.1 to 22.6: all plays of a few threads, each one also with picks after it
// with which all operations respond, or with which only one of them goes on. A
// thread makes several steps for each pick of a row.
func TestAllPlays(t *testing.T) {
	var seen tale
	for _, q := range []struct {
		n, k, a, picks int
		before         []int
		bursts         []int
		calls          []api.Call
	}{
		{2, 1, 0, 11, nil, []int{2, 3}, []api.Call{putting(0, 5), putting(1, 6), taking(1), taking(0)}},
		{2, 1, 0, 10, turns(0, 6), []int{1, 1}, []api.Call{putting(0, 5), taking(1), taking(0)}},
		{2, 2, 0, 10, append(turns(0, 20), turns(1, 7)...), []int{1, 2}, []api.Call{putting(0, 5), taking(0), taking(1), taking(0), putting(1, 7)}},
		{2, 1, 0, 10, nil, []int{3, 5}, []api.Call{taking(0), taking(1), putting(1, 4), putting(0, 3)}},
		{2, 1, 1, 11, nil, []int{2, 3}, []api.Call{putting(0, 5), putting(1, 6), taking(1), taking(0), putting(0, 7)}},
		{2, 2, 1, 10, turns(0, 4), []int{1, 7}, []api.Call{putting(0, 5), putting(1, 6), putting(1, 7), taking(1), taking(1), {Thread: 1, Kind: 2}, putting(1, 8), taking(0)}},
		{2, 1, 2, 10, nil, []int{1, 9}, []api.Call{taking(0), putting(1, 6), taking(1), putting(1, 7), taking(1), putting(1, 8), taking(1)}},
		{3, 1, 0, 7, turns(1, 15), []int{3, 4, 5}, []api.Call{taking(0), putting(1, 5), taking(2), putting(2, 6)}},
		{3, 1, 1, 7, nil, []int{2, 5, 7}, []api.Call{putting(0, 5), putting(1, 6), putting(2, 7), taking(0), taking(1), taking(2)}},
		{3, 2, 3, 6, turns(0, 9), []int{4, 6, 9}, []api.Call{putting(0, 5), taking(0), taking(1), taking(2), putting(1, 1<<24), putting(2, 1<<24-1), {Thread: 1, Obj: 1}}},
		{2, 2, 1, 9, turns(1, 13), []int{1, 13}, []api.Call{putting(1, 5), putting(0, 6), putting(1, 7), taking(1), taking(1), putting(1, 8), taking(1)}},
		{2, 3, 0, 9, append(turns(1, 20), turns(0, 10)...), []int{1, 21}, []api.Call{putting(1, 5), putting(0, 6), putting(1, 7), taking(1), taking(1), putting(1, 8), putting(1, 9)}},
		{4, 1, 0, 5, turns(3, 12), []int{5, 7, 9, 3}, []api.Call{taking(0), putting(1, 5), taking(2), putting(3, 6)}},
	} {
		rest := slices.Repeat(threads(q.n), 60*len(q.calls))
		for row := range trial.Rows(q.n, q.picks) {
			picks := slices.Clone(q.before)
			for _, p := range row {
				picks = append(picks, turns(p, q.bursts[p])...)
			}
			seen.play(t, q.n, q.k, q.a, q.calls, slices.Concat(picks, rest))
			seen.play(t, q.n, q.k, q.a, q.calls, slices.Concat(picks, alone(row[0], q.n, q.k, q.a)))
		}
	}
	seen.check(t, 100)
}

// 22.1 to 22.6: long plays of many threads; in some of them thread 0 makes few
// steps, so that it is helped.
func TestLongPlays(t *testing.T) {
	var seen tale
	for seed := range 300 {
		number := trial.Numbers(uint64(seed))
		n, k, a := 1+number(api.MaxThreads), 1+number(4), seed%4
		if seed%3 > 0 {
			n = 1 + number(4)
		}
		if seed%30 == 0 {
			k = 32
		}
		var calls []api.Call
		for i := range number(100) {
			c := putting(number(n), uint64(i))
			if number(2) == 0 {
				c.Kind = 1
			}
			switch number(40) {
			case 0:
				c.Kind = number(5) - 2
			case 1:
				c.Obj = 1
			case 2:
				c.A += 1 << 24
			}
			calls = append(calls, c)
		}
		var picks []int
		for range number(400) {
			thread, times := number(n+1), 1
			if thread > 0 {
				times += number(1 + 12*(seed%2))
			}
			picks = append(picks, turns(thread, times)...)
		}
		seen.play(t, n, k, a, calls, append(picks, alone(number(n), n, k, a)...))
	}
	seen.check(t, 20)
}

// most is how many steps an operation makes at most (22.5).
func most(n, k, a int) int {
	h := 15 * (2*n*n + 8)
	return (n+1)*(h+1) + k + 14*a + n + 14
}

// alone is a thread that is picked until its operation must have responded, as
// far as the picks of a play suffice for that.
func alone(thread, n, k, a int) []int {
	return turns(thread, min(most(n, k, a), api.MaxPicks/2))
}

// tale is what came about in plays.
type tale struct {
	nextLost, takerLost, descriptorLost, endLost int // accesses C that did not succeed
	helpedPut, helpedTake, helpedEmpty           int // operations that took effect by another thread
	announcedPut, announcedTake, announcedEmpty  int // those that announced themselves, and took effect by themselves
	completed                                    int // descriptors that another thread completed at an end
	full, empty                                  int // operations that were refused at once
	stale                                        int // nodes that were in use again when the tail had just been read
}

// check checks that everything came about so many times.
func (s *tale) check(t *testing.T, least int) {
	t.Helper()
	if min(s.nextLost, s.takerLost, s.descriptorLost, s.endLost, s.helpedPut, s.helpedTake, s.helpedEmpty,
		s.announcedPut, s.announcedTake, s.announcedEmpty, s.completed, s.full, s.empty, 10*s.stale) < least {
		t.Errorf("too few plays of a kind: %+v", *s)
	}
}

// play checks a play against the accesses of the chapter, and all that follows
// from them.
func (s *tale) play(t *testing.T, n, k, a int, calls []api.Call, picks []int) {
	t.Helper()
	r := play(t, n, k, a, calls, picks)
	walk, ok := trial.PlayFrom(n, initial(n, k), calls, picks, described(n, k, a))
	if !ok {
		t.Fatalf("no play of %v", calls)
	}
	e := effects{n: n, calls: calls, walk: walk, ticks: map[int]int{}}
	e.find(t, s)
	for i := range walk.Report.Events {
		x := &walk.Report.Events[i]
		if tick, ok := e.ticks[i]; ok {
			x.Key = []int{2 * tick}
		} else if x.Resp != 0 {
			x.Key = []int{2 * x.Resp}
		}
	}
	if !trial.SameReport(r, walk.Report) {
		t.Errorf("want %v", walk.Report)
	}
	for _, x := range r.Events {
		if m := most(n, k, a); x.Steps > m || x.Resp == 0 && x.Steps == m {
			t.Errorf("%v: too many steps", x)
		}
	}
	if left := checkOneByOne(t, n, k, calls, r); !slices.Equal(left, content(n, k, r.Words)) {
		t.Errorf("%v is in the queue; want %v", content(n, k, r.Words), left)
	}
	if t.Failed() {
		t.Fatalf("%d threads, %d places, %d attempts, %v of %v: %v", n, k, a, brief(picks), calls, r)
	}
}

// effects finds out at which ticks the operations of a play take effect.
type effects struct {
	n     int
	calls []api.Call
	walk  trial.Walk
	ticks map[int]int // by events
}

// find goes through all accesses.
func (e *effects) find(t *testing.T, s *tale) {
	t.Helper()
	for i, made := range e.walk.Made {
		for j, a := range made {
			if a.Kind == 'C' {
				e.swapped(t, s, i, j, a)
			}
			count(&s.stale, j > 0 && e.isStale(made[j-1], a))
		}
	}
	for i, x := range e.walk.Report.Events {
		if _, ok := e.ticks[i]; ok || x.Resp == 0 {
			continue
		}
		switch x.Answer.Err {
		case api.ErrFull:
			s.full++
			marks := e.reads(i, mark, len(e.walk.Made[i]))
			e.ticks[i] = marks[0]
		case api.ErrEmpty:
			s.empty++
			e.ticks[i] = e.lastNext(i, len(e.walk.Made[i]))
		}
	}
}

// swapped finds out which operation takes effect by the access j, C, of the
// event i.
func (e *effects) swapped(t *testing.T, s *tale, i, j int, a trial.Made) {
	t.Helper()
	thread := e.calls[e.walk.Report.Events[i].Call].Thread
	switch {
	case a.At < 2:
		count(&s.endLost, a.Result == 0)
	case a.At < 2+e.n:
		count(&s.descriptorLost, a.Result == 0)
		done := a.Result == 1 && a.Y%2 == 0
		count(&s.completed, done && thread != a.At-2)
		if done && a.Y%4 == takes && load(a.Y) == 0 {
			e.effect(t, e.current(a.At-2, a.Tick), e.lastNext(i, j))
			count(&s.helpedEmpty, thread != a.At-2)
			count(&s.announcedEmpty, thread == a.At-2)
		}
	case a.Result == 0:
		count(&s.nextLost, (a.At-2-e.n)%4 == next)
		count(&s.takerLost, (a.At-2-e.n)%4 == taker)
	case (a.At-2-e.n)%4 == next:
		put := e.putOf(number(a.Y))
		e.effect(t, put, a.Tick)
		count(&s.helpedPut, put != i)
		count(&s.announcedPut, put == i && e.announced(i))
	case (a.At-2-e.n)%4 == taker:
		who := int(number(a.Y))
		if who <= e.n {
			e.effect(t, e.current(who-1, a.Tick), a.Tick)
			count(&s.helpedTake, thread != who-1)
			count(&s.announcedTake, thread == who-1)
		} else {
			e.effect(t, i, a.Tick)
		}
	}
}

// isStale tells whether the second access reads next of the node at the tail,
// which the first one has read, and finds another version there.
func (e *effects) isStale(a, b trial.Made) bool {
	return a.Kind == 'R' && a.At == 1 && b.Kind == 'R' && b.At == at(e.n, int(a.Result%1024), next) && b.Result>>30 != a.Result>>10
}

// count increases a number if ok.
func count(c *int, ok bool) {
	if ok {
		*c++
	}
}

// effect records that an event takes effect, which it does once.
func (e *effects) effect(t *testing.T, i, tick int) {
	t.Helper()
	if before, ok := e.ticks[i]; ok || i < 0 {
		t.Errorf("the event %d takes effect at %d and %d", i, before, tick)
	}
	e.ticks[i] = tick
}

// current is the event of a thread at a tick.
func (e *effects) current(thread, tick int) int {
	return slices.IndexFunc(e.walk.Report.Events, func(x api.Event) bool {
		return e.calls[x.Call].Thread == thread && x.Inv <= tick && (x.Resp == 0 || x.Resp >= tick)
	})
}

// putOf is the event that has allocated a node.
func (e *effects) putOf(r uint64) int {
	for i, made := range e.walk.Made {
		for _, a := range made {
			if a.Kind == 'W' && a.At == at(e.n, int(r%1024), mark) && a.X == 2*(r/1024)+1 {
				return i
			}
		}
	}
	return -1
}

// announced tells whether an event has written its descriptor.
func (e *effects) announced(i int) bool {
	return slices.ContainsFunc(e.walk.Made[i], func(a trial.Made) bool { return a.Kind == 'W' && a.At < 2+e.n })
}

// reads is the ticks at which an event has read fields of a kind, among its
// accesses before the access j.
func (e *effects) reads(i, field, j int) []int {
	var ticks []int
	for _, a := range e.walk.Made[i][:j] {
		if a.Kind == 'R' && a.At >= 2+e.n && (a.At-2-e.n)%4 == field {
			ticks = append(ticks, a.Tick)
		}
	}
	return ticks
}

// lastNext is the tick at which an event has read next of a node last, before
// its access j.
func (e *effects) lastNext(i, j int) int {
	ticks := e.reads(i, next, j)
	return ticks[len(ticks)-1]
}

// item is a value in a queue, and the thread that put it.
type item struct {
	thread int
	value  uint64
}

// checkOneByOne executes the operations in the order of their keys, at one
// moment each (22.4, 22.6), and returns what is in the queue then.
func checkOneByOne(t *testing.T, n, k int, calls []api.Call, r api.Report) []item {
	t.Helper()
	l, ok := trial.InOrder(r)
	if !ok {
		t.Error("a key at another time")
	}
	var queue []item
	for _, x := range l {
		c := calls[x.Call]
		var want api.Answer
		switch {
		case c.Obj != 0:
			want.Err = api.ErrObj
		case isPut(c) && x.Answer.Err == api.ErrFull:
			want.Err = api.ErrFull
			if own := ownOf(queue, c.Thread); own < k-n-1 {
				t.Errorf("%v: it has only %d in the queue", x, own)
			}
		case isPut(c):
			queue = append(queue, item{c.Thread, c.A})
		case isTake(c) && len(queue) == 0:
			want.Err = api.ErrEmpty
		case isTake(c):
			want.Val = queue[0].value
			queue = queue[1:]
		case c.Kind == 0:
			want.Err = api.ErrRange
		default:
			want.Err = api.ErrKind
		}
		if x.Resp != 0 && !trial.SameAnswer(x.Answer, want) {
			t.Errorf("%v: want %v", x, want)
		}
	}
	return queue
}

// ownOf is how many values in a queue a thread has put.
func ownOf(queue []item, thread int) int {
	own := 0
	for _, i := range queue {
		if i.thread == thread {
			own++
		}
	}
	return own
}

// content is what is in the queue that has these words.
func content(n, k int, words []uint64) []item {
	var l []item
	r := words[0]
	taken := number(words[at(n, int(r%1024), taker)]) != 0
	for {
		r = number(words[at(n, int(r%1024), next)])
		if r == 0 {
			return l
		}
		i := int(r % 1024)
		if !taken {
			l = append(l, item{(i - 2) / k, words[at(n, i, value)] % (1 << 32)})
		}
		taken = false
	}
}
