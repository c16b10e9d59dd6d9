package multi_test

import (
	"slices"
	"testing"

	"roundelay/api"
	"roundelay/trial"
)

// 16.1 to 16.5: all plays of a few threads, each one also with picks after it
// with which all operations respond. Each thread makes several steps for each
// pick of a row, so that some plays have scans that borrow.
func TestAllPlays(t *testing.T) {
	borrowed := 0
	for _, q := range []struct {
		n, m, q, picks int
		bursts         []int
		calls          []api.Call
	}{
		{1, 2, 2, 10, []int{2}, []api.Call{scanning(0), updating(0, 1, 1), updating(0, 2, 2), {Kind: 2}, updating(0, 0, 3), updating(0, 0, 4), scanning(0)}},
		{2, 1, 2, 11, []int{1, 1}, []api.Call{updating(0, 0, 1), updating(1, 0, 2), scanning(0), updating(1, 0, 3), scanning(1)}},
		{2, 2, 2, 10, []int{2, 3}, []api.Call{updating(0, 1, 1), updating(1, 1, 2), updating(1, 0, 3), scanning(0), scanning(1), updating(1, 0, 4)}},
		{2, 2, 4, 11, []int{1, 7}, []api.Call{scanning(0), updating(1, 0, 1), updating(1, 1, 2), updating(1, 1, 3), updating(0, 0, 4), updating(1, 0, 5)}},
		{2, 3, 3, 10, []int{1, 9}, []api.Call{updating(0, 1, 1), updating(1, 2, 2), scanning(0), updating(1, 0, 3), updating(1, 1, 4), {Thread: 1, Obj: 1}}},
		{3, 2, 2, 7, []int{2, 6, 5}, []api.Call{scanning(0), updating(1, 0, 1), updating(1, 1, 2), scanning(1), updating(2, 0, 3), updating(2, 1, 4), scanning(2)}},
		{3, 2, 3, 7, []int{2, 5, 9}, []api.Call{scanning(0), updating(1, 1, 1), updating(1, 0, 2), updating(2, 1, 3), updating(2, 0, 4), updating(2, 1, 5)}},
		{4, 2, 2, 5, []int{2, 8, 9, 10}, []api.Call{scanning(0), updating(1, 0, 1), updating(2, 1, 2), updating(3, 0, 3), updating(1, 1, 4), updating(2, 0, 5), updating(3, 1, 6)}},
	} {
		rest := slices.Repeat(threads(q.n), 60)
		for row := range trial.Rows(q.n, q.picks) {
			var picks []int
			for _, p := range row {
				picks = append(picks, turns(p, q.bursts[p])...)
			}
			borrowed += checkPlay(t, q.n, q.m, q.q, q.calls, picks)
			borrowed += checkPlay(t, q.n, q.m, q.q, q.calls, append(picks, rest...))
		}
	}
	if borrowed < 1000 {
		t.Errorf("only %d scans borrowed", borrowed)
	}
}

// threads is the list of all threads.
func threads(n int) []int {
	var l []int
	for p := range n {
		l = append(l, p)
	}
	return l
}

// 16.1 to 16.5: long plays of many threads; in some of them thread 0 is picked
// most, and in the others it makes few steps, so that its scans borrow.
func TestLongPlays(t *testing.T) {
	borrowed := 0
	for seed := range 200 {
		next := trial.Numbers(uint64(seed))
		n, m, q := 1+next(api.MaxThreads), 1+next(16), 1+next(30)
		if seed%3 == 0 {
			n, m = 1+next(4), 1+next(4)
		}
		var calls []api.Call
		for i := range next(250) {
			c := updating(next(n), next(m), uint64(i+1))
			if next(3) == 0 {
				c = scanning(c.Thread)
			}
			switch next(40) {
			case 0:
				c.Kind = 2
			case 1:
				c.Obj = 1
			case 2:
				c.A = uint64(m)
			}
			calls = append(calls, c)
		}
		var picks []int
		for range next(1000) {
			thread, times := next(n+1), 1
			if seed%2 == 0 && next(2) == 0 {
				thread = 0
			}
			if thread > 0 {
				times += next(1 + 5*m*(seed%2))
			}
			picks = append(picks, turns(thread, times)...)
		}
		borrowed += checkPlay(t, n, m, q, calls, picks)
	}
	if borrowed < 100 {
		t.Errorf("only %d scans borrowed", borrowed)
	}
}

// checkPlay checks a play against the accesses of the chapter, and all that
// follows from them. It returns how many scans borrowed a view.
func checkPlay(t *testing.T, n, m, q int, calls []api.Call, picks []int) int {
	t.Helper()
	r := play(t, n, m, q, calls, picks)
	walk, ok := trial.Play(n, wordsOf(n, m, q), calls, picks, described(n, m, q))
	if !ok {
		t.Fatalf("no play of %v", calls)
	}
	found := momentsOf(m, walk)
	for i := range walk.Report.Events {
		x := &walk.Report.Events[i]
		switch c := calls[x.Call]; {
		case x.Resp == 0:
		case c.Kind == 1 && x.Answer.Err == api.OK:
			moment := found.of(i)
			x.Key = []int{2 * moment, 2 * x.Resp}
		default:
			x.Key = []int{2 * x.Resp}
		}
	}
	if !trial.SameReport(r, walk.Report) {
		t.Errorf("want %v", walk.Report)
	}
	checkSteps(t, n, m, calls, r)
	checkOneByOne(t, n, m, q, calls, r)
	if t.Failed() {
		t.Fatalf("%d threads, %d components, %d records, %v of %v: %v", n, m, q, picks, calls, r)
	}
	return found.borrowed
}

// described is how the calls on a snapshot go on, as the chapter tells it.
func described(n, m, q int) trial.Next {
	used := make([]int, n)
	next := trial.Straight(func(c api.Call, access func(trial.Access) uint64) api.Answer {
		switch {
		case c.Obj != 0:
			return api.Answer{Err: api.ErrObj}
		case c.Kind == 0 && c.A >= uint64(m):
			return api.Answer{Err: api.ErrRange}
		case c.Kind == 0 && used[c.Thread] == q:
			return api.Answer{Err: api.ErrFull}
		case c.Kind == 0:
			view := scan(m, q, access)
			record := m + (c.Thread*q+used[c.Thread])*(m+1)
			access(trial.Access{Kind: 'W', At: record, X: c.B})
			for i, v := range view {
				access(trial.Access{Kind: 'W', At: record + 1 + i, X: v})
			}
			access(trial.Access{Kind: 'W', At: int(c.A), X: uint64(record)})
			return api.Answer{}
		case c.Kind == 1:
			return api.Answer{List: scan(m, q, access)}
		}
		return api.Answer{Err: api.ErrKind}
	})
	return func(c api.Call, results []uint64) (trial.Access, api.Answer, bool) {
		a, answer, done := next(c, results)
		if done && c.Kind == 0 && answer.Err == api.OK {
			used[c.Thread]++
		}
		return a, answer, done
	}
}

// scan makes the accesses of a scan, and returns its numbers.
func scan(m, q int, access func(trial.Access) uint64) []uint64 {
	read := func(at int) uint64 {
		return access(trial.Access{Kind: 'R', At: at})
	}
	collect := func() []int {
		var l []int
		for component := range m {
			l = append(l, int(read(component)))
		}
		return l
	}
	numbers := make([]uint64, m)
	var noted [api.MaxThreads][]int
	for before := collect(); ; {
		now := collect()
		if slices.Equal(now, before) {
			for component, record := range now {
				if record != 0 {
					numbers[component] = read(record)
				}
			}
			return numbers
		}
		for component, record := range now {
			if record == before[component] || record == 0 {
				// A record does not give way to 0, except while results are not known yet.
				continue
			}
			owner := (record - m) / (m + 1) / q
			noted[owner] = append(noted[owner], record)
			if len(noted[owner]) == 2 {
				for i := range m {
					numbers[i] = read(slices.Max(noted[owner]) + 1 + i)
				}
				return numbers
			}
		}
		before = now
	}
}

// moments tells when the numbers of scans were present.
type moments struct {
	m        int
	walk     trial.Walk
	writers  map[int]int // by addresses of records: the event that wrote it
	borrowed int
}

// momentsOf returns the moments of the scans of a play.
func momentsOf(m int, walk trial.Walk) *moments {
	writers := map[int]int{}
	for i, made := range walk.Made {
		for _, a := range made {
			if a.Kind == 'W' && a.At >= m {
				writers[a.At] = i
			}
		}
	}
	return &moments{m: m, walk: walk, writers: writers}
}

// of returns the moment of the scan of an event, as its accesses show it.
func (f *moments) of(event int) int {
	made := f.walk.Made[event]
	var reads []trial.Made
	for _, a := range made {
		if a.Kind == 'R' && a.At < f.m {
			reads = append(reads, a)
		}
	}
	end := len(reads) - f.m
	before, now := reads[end-f.m:end], reads[end:]
	if slices.Equal(trial.Results(before), trial.Results(now)) {
		return before[f.m-1].Tick
	}
	f.borrowed++
	record := made[len(reads)].At - 1
	return f.of(f.writers[record])
}

// checkSteps checks how many steps operations make (16.5).
func checkSteps(t *testing.T, n, m int, calls []api.Call, r api.Report) {
	t.Helper()
	for _, x := range r.Events {
		least, most := 2*m, m*(n+2)
		switch {
		case x.Answer.Err != api.OK:
			least, most = 1, 1
		case calls[x.Call].Kind == 0:
			least, most = least+m+2, most+m+2
		}
		if x.Steps > most || x.Resp != 0 && x.Steps < least || x.Resp == 0 && x.Steps == most {
			t.Errorf("%v: not from %d to %d steps", x, least, most)
		}
	}
}

// checkOneByOne executes the operations in the order of their keys, at one
// moment each (16.4).
func checkOneByOne(t *testing.T, n, m, q int, calls []api.Call, r api.Report) {
	t.Helper()
	l, ok := trial.InOrder(r)
	if !ok {
		t.Error("a key at another time")
	}
	values, used := make([]uint64, m), make([]int, n)
	for _, x := range l {
		var want api.Answer
		switch c := calls[x.Call]; {
		case x.Resp == 0:
			t.Errorf("%v: a key before the response", x)
		case c.Obj != 0:
			want.Err = api.ErrObj
		case c.Kind == 0 && c.A >= uint64(m):
			want.Err = api.ErrRange
		case c.Kind == 0 && used[c.Thread] == q:
			want.Err = api.ErrFull
		case c.Kind == 0:
			used[c.Thread]++
			values[c.A] = c.B
		case c.Kind == 1:
			want.List = values
		default:
			want.Err = api.ErrKind
		}
		if !trial.SameAnswer(x.Answer, want) {
			t.Errorf("%v: want %v", x, want)
		}
	}
}
