package pick_test

import (
	"math"
	"slices"
	"testing"

	"roundelay/api"
	"roundelay/pick"
)

// callsOf returns calls of these threads, in order.
func callsOf(threads ...int) []api.Call {
	var calls []api.Call
	for _, p := range threads {
		calls = append(calls, api.Call{Thread: p})
	}
	return calls
}

// line returns a line of calls, which must be right.
func line(t *testing.T, n int, calls []api.Call) *pick.Line {
	t.Helper()
	l, e := pick.New(n, calls)
	if e != api.OK || l == nil {
		t.Fatalf("New(%d, %v): %v, %v", n, calls, l, e)
	}
	return l
}

// wrongLines are what no line is made of; of several errors the first one counts.
func wrongLines() []struct {
	n     int
	calls []api.Call
	want  api.Errno
} {
	many := make([]api.Call, api.MaxCalls+1)
	return []struct {
		n     int
		calls []api.Call
		want  api.Errno
	}{
		{0, nil, api.ErrArg},
		{-1, nil, api.ErrArg},
		{math.MinInt, nil, api.ErrArg},
		{api.MaxThreads + 1, nil, api.ErrArg},
		{math.MaxInt, callsOf(0), api.ErrArg},
		{0, many, api.ErrArg},
		{17, many, api.ErrArg},
		{1, many, api.ErrLong},
		{16, many, api.ErrLong},
		{2, append(callsOf(7), many...), api.ErrLong},
		{1, callsOf(1), api.ErrArg},
		{2, callsOf(0, 1, 2), api.ErrArg},
		{2, callsOf(0, -1, 1), api.ErrArg},
		{16, callsOf(16), api.ErrArg},
		{16, callsOf(math.MinInt), api.ErrArg},
		{16, callsOf(math.MaxInt), api.ErrArg},
	}
}

// 5.1: the errors of New, in their order.
func TestNewErrors(t *testing.T) {
	for i, q := range wrongLines() {
		if l, e := pick.New(q.n, q.calls); l != nil || e != q.want {
			t.Errorf("%d: New(%d, %d calls): %v, %v; want nil, %v", i, q.n, len(q.calls), l, e, q.want)
		}
	}
}

// 5.1: lines at the limits, in which nothing is finished.
func TestNewLimits(t *testing.T) {
	for _, q := range []struct {
		n     int
		calls []api.Call
	}{
		{1, nil},
		{16, nil},
		{1, []api.Call{}},
		{1, callsOf(0)},
		{16, callsOf(15, 0)},
		{16, make([]api.Call, api.MaxCalls)},
	} {
		if l := line(t, q.n, q.calls); l.Left() != len(q.calls) {
			t.Errorf("New(%d, %d calls): %d left", q.n, len(q.calls), l.Left())
		}
	}
}

// 5.1: the current call of a thread is its first one that is not finished.
func TestLine(t *testing.T) {
	l := line(t, 4, callsOf(2, 0, 2, 1, 0, 2))
	own := [][]int{{1, 4}, {3}, {0, 2, 5}, nil}
	left := 6
	for _, p := range []int{2, 3, 0, 1, 1, 2, 4, 0, -1, 2, 0, 2} {
		if l.Left() != left {
			t.Fatalf("%d left; want %d", l.Left(), left)
		}
		var want int
		wantErr := api.ErrState
		there := p >= 0 && p < 4 && len(own[p]) > 0
		if there {
			want, wantErr = own[p][0], api.OK
		}
		if i, ok := l.Now(p); i != want || ok != there {
			t.Errorf("Now(%d): %d, %v; want %d, %v", p, i, ok, want, there)
		}
		if e := l.Finish(p); e != wantErr {
			t.Errorf("Finish(%d): %v; want %v", p, e, wantErr)
		}
		if there {
			own[p] = own[p][1:]
			left--
		}
	}
	if l.Left() != 0 {
		t.Errorf("%d left at the end", l.Left())
	}
}

// 5.1: asking changes nothing.
func TestNowKeeps(t *testing.T) {
	l := line(t, 2, callsOf(1, 1))
	for range 3 {
		if i, ok := l.Now(1); i != 0 || !ok || l.Left() != 2 {
			t.Error(i, ok, l.Left())
		}
	}
}

// 5.1: threads that do not exist have no current call.
func TestNoThread(t *testing.T) {
	l := line(t, 16, callsOf(0, 15))
	for _, p := range []int{-1, 16, 17, 1, math.MinInt, math.MaxInt} {
		if i, ok := l.Now(p); i != 0 || ok {
			t.Errorf("Now(%d): %d, %v", p, i, ok)
		}
		if e := l.Finish(p); e != api.ErrState {
			t.Errorf("Finish(%d): %v", p, e)
		}
	}
	if l.Left() != 2 {
		t.Errorf("%d left", l.Left())
	}
}

// 5.1: a line that is nil, or that New did not make, has no calls.
func TestNoLine(t *testing.T) {
	var none *pick.Line
	for _, p := range []int{-1, 0, 16} {
		if i, ok := none.Now(p); i != 0 || ok {
			t.Errorf("Now(%d): %d, %v", p, i, ok)
		}
		if e := none.Finish(p); e != api.ErrNil {
			t.Errorf("Finish(%d): %v", p, e)
		}
	}
	empty := &pick.Line{}
	if _, ok := empty.Now(0); ok || empty.Finish(0) != api.ErrState {
		t.Error("a line without calls has one")
	}
	if none.Left() != 0 || empty.Left() != 0 {
		t.Error("calls are left of none")
	}
}

// R4: a line keeps no calls, and two lines share nothing.
func TestLineAlone(t *testing.T) {
	calls := append(make([]api.Call, 0, 4), callsOf(1, 0)...)
	spare := calls[:4]
	spare[2], spare[3] = api.Call{Thread: 7}, api.Call{Thread: -7}
	before := slices.Clone(spare)
	l, other := line(t, 2, calls), line(t, 2, calls)
	if !slices.Equal(before, spare) {
		t.Error("New changed its argument")
	}
	calls[0].Thread = 0
	if i, ok := l.Now(1); i != 0 || !ok {
		t.Error("the line changed with the argument")
	}
	l.Finish(1)
	if _, ok := other.Now(1); !ok || other.Left() != 2 {
		t.Error("finishing a call of a line changed another one")
	}
}

// 5.2: the turns, with the edges of need and of picks.
func TestTurns(t *testing.T) {
	for i, q := range []struct {
		n           int
		calls       []api.Call
		need, picks []int
		want        []int
		idle        int
	}{
		{2, callsOf(0, 1), []int{2, 1}, []int{0, 1, 1, 0}, []int{0, 1, 0}, 1},
		{1, nil, nil, nil, nil, 0},
		{1, nil, []int{1}, []int{0, 0}, nil, 2},
		{1, callsOf(0), nil, nil, nil, 0},
		{1, callsOf(0), nil, []int{0, 0}, []int{0}, 1},
		{1, callsOf(0, 0), []int{3}, []int{0, 0, 0, 0, 0}, []int{0, 0, 0, 1}, 1},
		{1, callsOf(0, 0, 0), []int{0, -1, math.MinInt}, []int{0, 0, 0, 0}, []int{0, 1, 2}, 1},
		{1, callsOf(0), []int{math.MaxInt}, []int{0, 0, 0}, []int{0, 0, 0}, 0},
		{1, callsOf(0, 0), []int{1, 2, 9, 9}, []int{0, 0, 0, 0}, []int{0, 1, 1}, 1},
		{3, callsOf(2, 0, 2), []int{2, 2, 2}, []int{2, 0, 2, 1, 2, 0, 0, 2, 2}, []int{0, 1, 0, 2, 1, 2}, 3},
		{2, callsOf(0, 1), nil, []int{-1, 2, 16, math.MinInt, math.MaxInt, 1}, []int{1}, 5},
		{16, callsOf(15, 0, 15), []int{1, 1, 1}, []int{15, 15, 15, 0}, []int{0, 2, 1}, 1},
	} {
		turns, idle, e := pick.Turns(q.n, q.calls, q.need, q.picks)
		if e != api.OK || idle != q.idle || !slices.Equal(turns, q.want) {
			t.Errorf("%d: %v, %d, %v; want %v, %d", i, turns, idle, e, q.want, q.idle)
		}
	}
}

// 5.2: the error of New precedes that there are too many picks.
func TestTurnsErrors(t *testing.T) {
	long := make([]int, api.MaxPicks+1)
	for i, q := range wrongLines() {
		for _, picks := range [][]int{nil, {0, 1}, long} {
			if turns, idle, e := pick.Turns(q.n, q.calls, nil, picks); len(turns) != 0 || idle != 0 || e != q.want {
				t.Errorf("%d: %v, %d, %v; want %v", i, turns, idle, e, q.want)
			}
		}
	}
	if turns, idle, e := pick.Turns(1, callsOf(0), nil, long); len(turns) != 0 || idle != 0 || e != api.ErrLong {
		t.Errorf("too many picks: %d turns, %d, %v", len(turns), idle, e)
	}
	if turns, idle, e := pick.Turns(1, callsOf(0), []int{3}, long[1:]); len(turns) != 3 || idle != api.MaxPicks-3 || e != api.OK {
		t.Errorf("as many picks as there may be: %d turns, %d, %v", len(turns), idle, e)
	}
}

// R4: the arguments stay what they are, with their spare capacity.
func TestTurnsAlone(t *testing.T) {
	calls := append(make([]api.Call, 0, 3), callsOf(0, 1)...)
	need := append(make([]int, 0, 4), 2, 0)
	picks := append(make([]int, 0, 6), 0, 1, 0, 0)
	before, needBefore, picksBefore := slices.Clone(calls[:3]), slices.Clone(need[:4]), slices.Clone(picks[:6])
	turns, _, _ := pick.Turns(2, calls, need, picks)
	again, _, _ := pick.Turns(2, calls, need, picks)
	for i := range turns {
		turns[i] = 99
	}
	if !slices.Equal(calls[:3], before) || !slices.Equal(need[:4], needBefore) || !slices.Equal(picks[:6], picksBefore) {
		t.Error("Turns changed its arguments")
	}
	if !slices.Equal(again, []int{0, 1, 0}) {
		t.Error("two results share memory, or differ:", again)
	}
}

// random returns numbers that look like chance, from a rule.
func random(seed uint64) func(below int) int {
	return func(below int) int {
		seed = seed*6364136223846793005 + 1442695040888963407
		return int(seed>>33) % below
	}
}

// 5.3: in many rows of picks, the turns of a thread's calls follow each other,
// each call has the turns that it needs, and every pick is a turn or idle.
func TestConsequences(t *testing.T) {
	for seed := range 300 {
		next := random(uint64(seed))
		n := 1 + next(5)
		var calls []api.Call
		var need []int
		for range next(12) {
			calls = append(calls, api.Call{Thread: next(n)})
			need = append(need, next(5)-1)
		}
		var picks []int
		for range next(60) {
			picks = append(picks, next(n+2)-1)
		}
		turns, idle, e := pick.Turns(n, calls, need, picks)
		if e != api.OK || len(turns)+idle != len(picks) {
			t.Fatalf("seed %d: %d turns, %d idle, %d picks, %v", seed, len(turns), idle, len(picks), e)
		}
		for p := range n {
			checkThread(t, p, calls, need, turns, picks)
		}
	}
}

// checkThread checks the turns of one thread against its calls, each as often as it needs.
func checkThread(t *testing.T, p int, calls []api.Call, need, turns, picks []int) {
	t.Helper()
	var want, got []int
	for i, c := range calls {
		if c.Thread == p {
			for range max(need[i], 1) {
				want = append(want, i)
			}
		}
	}
	picked := 0
	for _, q := range picks {
		if q == p {
			picked++
		}
	}
	for _, i := range turns {
		if calls[i].Thread == p {
			got = append(got, i)
		}
	}
	if !slices.Equal(got, want[:min(picked, len(want))]) {
		t.Errorf("thread %d: turns %v of %v, for %d picks", p, got, want, picked)
	}
}
