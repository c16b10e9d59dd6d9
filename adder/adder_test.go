package adder_test

import (
	"math"
	"slices"
	"testing"

	"roundelay/adder"
	"roundelay/api"
	"roundelay/loom"
	"roundelay/trial"
)

const top = math.MaxUint64

// play returns the play of an adder, which must have no error.
func play(t *testing.T, n int, calls []api.Call, picks []int) api.Report {
	t.Helper()
	r, e := adder.Play(n, calls, picks)
	if e != api.OK {
		t.Fatalf("Play(%d, %v, %v): %v", n, calls, picks, e)
	}
	return r
}

// adding is a call that adds a number.
func adding(thread int, number uint64) api.Call {
	return api.Call{Thread: thread, Kind: 0, A: number}
}

// reading is a call that reads.
func reading(thread int) api.Call {
	return api.Call{Thread: thread, Kind: 1}
}

// ticket is a call that takes a ticket.
func ticket(thread int) api.Call {
	return api.Call{Thread: thread, Kind: 2}
}

// 9.2: the example of the chapter.
func TestExample(t *testing.T) {
	want := api.Report{
		Events: []api.Event{
			{Call: 1, Inv: 1, Resp: 1, Steps: 1, Key: []int{2}},
			{Call: 0, Inv: 2, Resp: 2, Steps: 1, Answer: api.Answer{Val: 1}, Key: []int{4}},
		},
		Words:  []uint64{2},
		Counts: api.Counts{Add: 2},
		Ticks:  2,
	}
	if r := play(t, 2, []api.Call{ticket(0), ticket(1)}, []int{1, 0}); !trial.SameReport(r, want) {
		t.Errorf("%v; want %v", r, want)
	}
}

// 9.2: each operation, one after the other; sums are modulo 2^64, and what an
// operation has no use for makes no difference.
func TestOperations(t *testing.T) {
	var calls []api.Call
	var want []uint64
	for _, q := range []struct {
		call api.Call
		val  uint64
	}{
		{reading(0), 0},
		{adding(0, 5), 0},
		{reading(0), 5},
		{adding(0, 0), 5},
		{api.Call{Kind: 0, A: 2, B: 9, C: 9}, 5},
		{ticket(0), 7},
		{api.Call{Kind: 2, A: 50, B: top, C: top}, 8},
		{api.Call{Kind: 2, A: top}, 9},
		{api.Call{Kind: 1, A: top, B: top, C: top}, 10},
		{adding(0, top), 10},
		{reading(0), 9},
		{adding(0, top-9), 9},
		{reading(0), top},
		{ticket(0), top},
		{ticket(0), 0},
		{adding(0, 1<<63), 1},
		{adding(0, 1<<63), 1<<63 + 1},
		{reading(0), 1},
	} {
		calls = append(calls, q.call)
		want = append(want, q.val)
	}
	r := play(t, 1, calls, make([]int, len(calls)))
	if len(r.Events) != len(calls) {
		t.Fatalf("%d events of %d calls", len(r.Events), len(calls))
	}
	for i, x := range r.Events {
		if !trial.SameAnswer(x.Answer, api.Answer{Val: want[i]}) {
			t.Errorf("%d: %v: %v; want %d", i, calls[i], x.Answer, want[i])
		}
	}
	if !slices.Equal(r.Words, []uint64{1}) || r.Counts != (api.Counts{Read: 6, Add: 12}) {
		t.Error(r.Words, r.Counts)
	}
}

// 9.2: operations that respond with an error at once make no access.
func TestErrorsWithoutAccess(t *testing.T) {
	for _, q := range []struct {
		call api.Call
		want api.Errno
	}{
		{api.Call{Kind: 3, A: 7}, api.ErrKind},
		{api.Call{Kind: -1, A: 7}, api.ErrKind},
		{api.Call{Kind: math.MaxInt}, api.ErrKind},
		{api.Call{Kind: math.MinInt}, api.ErrKind},
		{api.Call{Obj: 1, A: 7}, api.ErrObj},
		{api.Call{Obj: -1, Kind: 3}, api.ErrObj},
	} {
		want := api.Report{
			Events: []api.Event{{Inv: 1, Resp: 1, Steps: 1, Answer: api.Answer{Err: q.want}, Key: []int{2}}},
			Words:  []uint64{0},
			Ticks:  1,
			Idle:   1,
		}
		if r := play(t, 1, []api.Call{q.call}, []int{0, 0}); !trial.SameReport(r, want) {
			t.Errorf("%v: %v; want %v", q.call, r, want)
		}
	}
}

// 9.1: the errors of a play, in their order, and no report with them (R7).
func TestPlayErrors(t *testing.T) {
	for i, q := range trial.WrongPlays() {
		if r, e := adder.Play(q.N, q.Calls, q.Picks); e != q.Want || !trial.SameReport(r, api.Report{}) {
			t.Errorf("%d: %v, %v; want %v", i, r, e, q.Want)
		}
	}
}

// 9.1, 9.3: plays at the limits, and without calls; the tickets of all threads
// are 0, 1, 2 and so on.
func TestPlayLimits(t *testing.T) {
	calls := make([]api.Call, api.MaxCalls)
	for i := range calls {
		calls[i] = ticket(i * i % 16)
	}
	picks := make([]int, api.MaxPicks)
	for i := range picks {
		picks[i] = i % 17
	}
	r := play(t, 16, calls, picks)
	if len(r.Events) != 1000 || r.Ticks != 1000 || r.Idle != api.MaxPicks-1000 || !slices.Equal(r.Words, []uint64{1000}) {
		t.Error(len(r.Events), r.Ticks, r.Idle, r.Words)
	}
	for i, x := range r.Events {
		if !trial.SameAnswer(x.Answer, api.Answer{Val: uint64(i)}) {
			t.Errorf("ticket %d: %v", i, x)
		}
	}
	if r := play(t, 1, nil, nil); !trial.SameReport(r, api.Report{Words: []uint64{0}}) {
		t.Error(r)
	}
}

// 9.1 to 9.5: all plays of a few threads, and what the chapter says of each.
func TestAllPlays(t *testing.T) {
	for _, q := range []struct {
		n, picks int
		calls    []api.Call
	}{
		{1, 4, []api.Call{ticket(0), {Kind: 3}, adding(0, top), reading(0)}},
		{2, 8, []api.Call{adding(0, 5), ticket(1), reading(0), reading(1), ticket(0), adding(1, top-2), reading(1)}},
		{3, 7, []api.Call{adding(0, 1), adding(1, 2), adding(2, 4), reading(2), {Obj: 1}, reading(0)}},
		{3, 6, []api.Call{ticket(0), ticket(1), ticket(2), ticket(2), ticket(1)}},
	} {
		for picks := range trial.Rows(q.n, q.picks) {
			checkPlay(t, q.n, q.calls, picks)
		}
	}
}

// 9.1 to 9.5: long plays of many threads.
func TestLongPlays(t *testing.T) {
	for seed := range 40 {
		next := trial.Numbers(uint64(seed))
		n := 1 + next(api.MaxThreads)
		var calls []api.Call
		for range next(api.MaxCalls + 1) {
			c := api.Call{Thread: next(n), Obj: next(40) / 39, Kind: next(5) - 1, A: uint64(next(9))}
			calls = append(calls, c)
		}
		var picks []int
		for range next(2000) {
			picks = append(picks, next(n+1))
		}
		checkPlay(t, n, calls, picks)
	}
}

// checkPlay checks a play against the accesses of the chapter, and all that
// follows from them.
func checkPlay(t *testing.T, n int, calls []api.Call, picks []int) {
	t.Helper()
	r := play(t, n, calls, picks)
	w, ok := trial.Play(n, 1, calls, picks, described)
	if !ok {
		t.Fatalf("no play of %v", calls)
	}
	for i := range w.Report.Events {
		x := &w.Report.Events[i]
		x.Key = []int{2 * x.Resp}
		if x.Steps != 1 || x.Resp != x.Inv {
			t.Errorf("%v: not one step", x)
		}
	}
	if !trial.SameReport(r, w.Report) {
		t.Errorf("%v; want %v", r, w.Report)
	}
	checkOneByOne(t, calls, r)
	if t.Failed() {
		t.Fatalf("%v of %v: %v", picks, calls, r)
	}
}

// described is an operation as the chapter describes it.
func described(c api.Call, results []uint64) (trial.Access, api.Answer, bool) {
	switch {
	case c.Obj != 0:
		return trial.Access{}, api.Answer{Err: api.ErrObj}, true
	case c.Kind < 0 || c.Kind > 2:
		return trial.Access{}, api.Answer{Err: api.ErrKind}, true
	case len(results) == 1:
		return trial.Access{}, api.Answer{Val: results[0]}, true
	case c.Kind == 1:
		return trial.Access{Kind: 'R'}, api.Answer{}, false
	case c.Kind == 2:
		return trial.Access{Kind: 'A', X: 1}, api.Answer{}, false
	}
	return trial.Access{Kind: 'A', X: c.A}, api.Answer{}, false
}

// checkOneByOne executes the operations in the order of their keys, at one
// moment each (9.5).
func checkOneByOne(t *testing.T, calls []api.Call, r api.Report) {
	t.Helper()
	l, ok := trial.InOrder(r)
	if !ok {
		t.Error("a key at another time")
	}
	var sum uint64
	for _, x := range l {
		c := calls[x.Call]
		if _, want, refused := described(c, nil); refused {
			if !trial.SameAnswer(x.Answer, want) {
				t.Errorf("%v: want %v", x, want)
			}
			continue
		}
		if !trial.SameAnswer(x.Answer, api.Answer{Val: sum}) {
			t.Errorf("%v: want %d", x, sum)
		}
		switch c.Kind {
		case 0:
			sum += c.A
		case 2:
			sum++
		}
	}
}

// W6: the place of an adder in the memory changes no event, and its word alone.
func TestElsewhere(t *testing.T) {
	calls := []api.Call{adding(0, 5), ticket(1), reading(0), adding(1, 3)}
	away := slices.Clone(calls)
	for i := range away {
		away[i].Obj = 1
	}
	picks := []int{1, 0, 0, 1}
	near := play(t, 2, calls, picks)
	far, e := loom.Play(2, away, picks, loom.NewCells(2), adder.New(), adder.New())
	if e != api.OK || len(far.Events) != 4 || !trial.SameEvents(near.Events, far.Events) || near.Counts != far.Counts {
		t.Errorf("%v; %v; %v", e, near, far)
	}
	if !slices.Equal(near.Words, []uint64{9}) || !slices.Equal(far.Words, []uint64{0, 0, 9, 0}) {
		t.Errorf("%v; %v", near.Words, far.Words)
	}
}

// R4: the arguments stay what they are, and two reports share no memory.
func TestReportsAlone(t *testing.T) {
	calls := append(make([]api.Call, 0, 4), adding(0, 3), ticket(1))
	picks := append(make([]int, 0, 5), 0, 1, 1)
	before, picksBefore := slices.Clone(calls[:4]), slices.Clone(picks[:5])
	first, second := play(t, 2, calls, picks), play(t, 2, calls, picks)
	if !slices.Equal(calls[:4], before) || !slices.Equal(picks[:5], picksBefore) {
		t.Error("Play changed its arguments")
	}
	first.Words[0] = 99
	first.Events[0].Key[0] = 99
	first.Events[1] = api.Event{}
	if !trial.SameReport(second, play(t, 2, calls, picks)) {
		t.Error("two reports share memory:", second)
	}
}
