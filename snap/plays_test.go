package snap_test

import (
	"slices"
	"testing"

	"roundelay/api"
	"roundelay/trial"
)

// 15.1 to 15.6: all plays of a few threads, each one also with picks after it
// with which all operations respond. Each thread makes several steps for each
// pick of a row, so that some plays have scans that borrow.
func TestAllPlays(t *testing.T) {
	borrowed := 0
	for _, q := range []struct {
		n, p, picks int
		bursts      []int
		calls       []api.Call
	}{
		{1, 1, 10, []int{1}, []api.Call{scanning(0), updating(0, 1), {Kind: 2}, updating(0, 2), scanning(0)}},
		{2, 2, 11, []int{1, 1}, []api.Call{updating(0, 1), updating(1, 2), scanning(0), scanning(1)}},
		{2, 2, 10, []int{2, 3}, []api.Call{updating(0, 1), updating(1, 2), updating(1, 3), scanning(0), scanning(1), updating(1, 4)}},
		{2, 4, 11, []int{1, 7}, []api.Call{scanning(0), updating(1, 1), updating(1, 2), updating(1, 3), updating(0, 4), updating(1, 5)}},
		{2, 3, 11, []int{1, 9}, []api.Call{updating(0, 1), updating(1, 2), scanning(0), updating(1, 3), updating(1, 4), {Thread: 1, Obj: 1}}},
		{3, 2, 7, []int{3, 6, 7}, []api.Call{scanning(0), updating(1, 1), updating(1, 2), scanning(1), updating(2, 3), updating(2, 4), scanning(2)}},
		{3, 3, 7, []int{3, 6, 12}, []api.Call{scanning(0), updating(1, 1), updating(1, 2), updating(2, 3), updating(2, 4), updating(2, 5)}},
		{4, 2, 5, []int{4, 7, 13, 15}, []api.Call{scanning(0), updating(1, 1), updating(2, 2), updating(3, 3), updating(1, 4), updating(2, 5), updating(3, 6)}},
	} {
		rest := slices.Repeat(threads(q.n), 60)
		for row := range trial.Rows(q.n, q.picks) {
			var picks []int
			for _, p := range row {
				picks = append(picks, turns(p, q.bursts[p])...)
			}
			borrowed += checkPlay(t, q.n, q.p, q.calls, picks)
			borrowed += checkPlay(t, q.n, q.p, q.calls, append(picks, rest...))
		}
	}
	if borrowed < 1000 {
		t.Errorf("only %d scans borrowed", borrowed)
	}
}

// threads is the list of all threads.
func threads(n int) []int {
	var l []int
	for p := range n {
		l = append(l, p)
	}
	return l
}

// 15.1 to 15.6: long plays of many threads; in some of them thread 0 is picked
// most, and in the others it makes few steps, so that its scans borrow.
func TestLongPlays(t *testing.T) {
	borrowed := 0
	for seed := range 200 {
		next := trial.Numbers(uint64(seed))
		n, p := 1+next(api.MaxThreads), 1+next(30)
		if seed%3 == 0 {
			n = 1 + next(4)
		}
		var calls []api.Call
		for i := range next(250) {
			c := updating(next(n), uint64(i+1))
			if next(3) == 0 {
				c = scanning(c.Thread)
			}
			switch next(40) {
			case 0:
				c.Kind = 2
			case 1:
				c.Obj = 1
			}
			calls = append(calls, c)
		}
		var picks []int
		for range next(1000) {
			thread, times := next(n+1), 1
			if seed%2 == 0 && next(2) == 0 {
				thread = 0
			}
			if thread > 0 {
				times += next(1 + 5*n*(seed%2))
			}
			picks = append(picks, turns(thread, times)...)
		}
		borrowed += checkPlay(t, n, p, calls, picks)
	}
	if borrowed < 100 {
		t.Errorf("only %d scans borrowed", borrowed)
	}
}

// checkPlay checks a play against the accesses of the chapter, and all that
// follows from them. It returns how many scans borrowed a view.
func checkPlay(t *testing.T, n, p int, calls []api.Call, picks []int) int {
	t.Helper()
	r := play(t, n, p, calls, picks)
	walk, ok := trial.Play(n, wordsOf(n, p), calls, picks, described(n, p))
	if !ok {
		t.Fatalf("no play of %v", calls)
	}
	m := momentsOf(n, walk)
	for i := range walk.Report.Events {
		x := &walk.Report.Events[i]
		switch c := calls[x.Call]; {
		case x.Resp == 0:
		case c.Kind == 1 && x.Answer.Err == api.OK:
			moment := m.of(i)
			x.Key = []int{2 * moment, 2 * x.Resp}
		default:
			x.Key = []int{2 * x.Resp}
		}
	}
	if !trial.SameReport(r, walk.Report) {
		t.Errorf("want %v", walk.Report)
	}
	checkSteps(t, n, calls, r)
	checkOneByOne(t, n, p, calls, r)
	checkScans(t, calls, r)
	if t.Failed() {
		t.Fatalf("%d threads, %d records, %v of %v: %v", n, p, picks, calls, r)
	}
	return m.borrowed
}

// described is how the calls on a snapshot go on, as the chapter tells it.
func described(n, p int) trial.Next {
	used := make([]int, n)
	next := trial.Straight(func(c api.Call, access func(trial.Access) uint64) api.Answer {
		switch {
		case c.Obj != 0:
			return api.Answer{Err: api.ErrObj}
		case c.Kind == 0 && used[c.Thread] == p:
			return api.Answer{Err: api.ErrFull}
		case c.Kind == 0:
			view := scan(n, access)
			record := n + (c.Thread*p+used[c.Thread])*(n+1)
			access(trial.Access{Kind: 'W', At: record, X: c.A})
			for i, v := range view {
				access(trial.Access{Kind: 'W', At: record + 1 + i, X: v})
			}
			access(trial.Access{Kind: 'W', At: c.Thread, X: uint64(record)})
			return api.Answer{}
		case c.Kind == 1:
			return api.Answer{List: scan(n, access)}
		}
		return api.Answer{Err: api.ErrKind}
	})
	return func(c api.Call, results []uint64) (trial.Access, api.Answer, bool) {
		a, answer, done := next(c, results)
		if done && c.Kind == 0 && answer.Err == api.OK {
			used[c.Thread]++
		}
		return a, answer, done
	}
}

// scan makes the accesses of a scan, and returns its numbers.
func scan(n int, access func(trial.Access) uint64) []uint64 {
	read := func(at int) uint64 {
		return access(trial.Access{Kind: 'R', At: at})
	}
	collect := func() []int {
		var l []int
		for thread := range n {
			l = append(l, int(read(thread)))
		}
		return l
	}
	numbers := make([]uint64, n)
	differed := make([]bool, n)
	for before := collect(); ; {
		now := collect()
		if slices.Equal(now, before) {
			for thread, record := range now {
				if record != 0 {
					numbers[thread] = read(record)
				}
			}
			return numbers
		}
		for thread := range n {
			if now[thread] != before[thread] && differed[thread] {
				for i := range n {
					numbers[i] = read(now[thread] + 1 + i)
				}
				return numbers
			}
			differed[thread] = differed[thread] || now[thread] != before[thread]
		}
		before = now
	}
}

// moments tells when the numbers of scans were present.
type moments struct {
	n        int
	walk     trial.Walk
	writers  map[int]int // by addresses of records: the event that wrote it
	borrowed int
}

// momentsOf returns the moments of the scans of a play.
func momentsOf(n int, walk trial.Walk) *moments {
	writers := map[int]int{}
	for i, made := range walk.Made {
		for _, a := range made {
			if a.Kind == 'W' && a.At >= n {
				writers[a.At] = i
			}
		}
	}
	return &moments{n: n, walk: walk, writers: writers}
}

// of returns the moment of the scan of an event, as its accesses show it.
func (m *moments) of(event int) int {
	made := m.walk.Made[event]
	var reads []trial.Made
	for _, a := range made {
		if a.Kind == 'R' && a.At < m.n {
			reads = append(reads, a)
		}
	}
	end := len(reads) - m.n
	before, now := reads[end-m.n:end], reads[end:]
	if slices.Equal(trial.Results(before), trial.Results(now)) {
		return before[m.n-1].Tick
	}
	m.borrowed++
	record := made[len(reads)].At - 1
	return m.of(m.writers[record])
}

// checkSteps checks how many steps operations make (15.5).
func checkSteps(t *testing.T, n int, calls []api.Call, r api.Report) {
	t.Helper()
	for _, x := range r.Events {
		least, most := 2*n, n*(n+2)
		switch {
		case x.Answer.Err != api.OK:
			least, most = 1, 1
		case calls[x.Call].Kind == 0:
			least, most = least+n+2, most+n+2
		}
		if x.Steps > most || x.Resp != 0 && x.Steps < least || x.Resp == 0 && x.Steps == most {
			t.Errorf("%v: not from %d to %d steps", x, least, most)
		}
	}
}

// checkOneByOne executes the operations in the order of their keys, at one
// moment each (15.4).
func checkOneByOne(t *testing.T, n, p int, calls []api.Call, r api.Report) {
	t.Helper()
	l, ok := trial.InOrder(r)
	if !ok {
		t.Error("a key at another time")
	}
	values, used := make([]uint64, n), make([]int, n)
	for _, x := range l {
		var want api.Answer
		switch c := calls[x.Call]; {
		case x.Resp == 0:
			t.Errorf("%v: a key before the response", x)
		case c.Obj != 0:
			want.Err = api.ErrObj
		case c.Kind == 0 && used[c.Thread] == p:
			want.Err = api.ErrFull
		case c.Kind == 0:
			used[c.Thread]++
			values[c.Thread] = c.A
		case c.Kind == 1:
			want.List = values
		default:
			want.Err = api.ErrKind
		}
		if !trial.SameAnswer(x.Answer, want) {
			t.Errorf("%v: want %v", x, want)
		}
	}
}

// checkScans checks that of two scans, one has nowhere an earlier value: the
// values that a thread writes increase (15.6).
func checkScans(t *testing.T, calls []api.Call, r api.Report) {
	t.Helper()
	var lists [][]uint64
	for _, x := range r.Events {
		if len(x.Answer.List) == 0 {
			continue
		}
		for _, other := range lists {
			less, more := false, false
			for i, v := range x.Answer.List {
				less = less || v < other[i]
				more = more || v > other[i]
			}
			if less && more {
				t.Errorf("scans %v and %v", x.Answer.List, other)
			}
		}
		lists = append(lists, x.Answer.List)
	}
}
