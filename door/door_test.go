package door_test

import (
	"math"
	"slices"
	"testing"

	"roundelay/api"
	"roundelay/door"
	"roundelay/loom"
	"roundelay/trial"
)

// play returns the play of a door, which must have no error.
func play(t *testing.T, n int, calls []api.Call, picks []int) api.Report {
	t.Helper()
	r, e := door.Play(n, calls, picks)
	if e != api.OK {
		t.Fatalf("Play(%d, %v, %v): %v", n, calls, picks, e)
	}
	return r
}

// entering is a call that gets a phase.
func entering(thread int) api.Call {
	return api.Call{Thread: thread, Kind: 0}
}

// looking is a call that reads the phase of a thread.
func looking(thread int, at uint64) api.Call {
	return api.Call{Thread: thread, Kind: 1, A: at}
}

// 12.2: the example of the chapter, and the next phase.
func TestExample(t *testing.T) {
	calls := []api.Call{entering(0), entering(1), entering(0), looking(1, 0)}
	want := api.Report{
		Events: []api.Event{
			{Call: 0, Inv: 1, Resp: 5, Steps: 3, Answer: api.Answer{Val: 1}, Key: []int{10}},
			{Call: 1, Inv: 2, Resp: 6, Steps: 3, Answer: api.Answer{Val: 1}, Key: []int{12}},
			{Call: 2, Inv: 7, Resp: 9, Steps: 3, Answer: api.Answer{Val: 2}, Key: []int{18}},
			{Call: 3, Inv: 10, Resp: 10, Steps: 1, Answer: api.Answer{Val: 2}, Key: []int{20}},
		},
		Words:  []uint64{2, 1},
		Counts: api.Counts{Read: 7, Write: 3},
		Ticks:  10,
	}
	if r := play(t, 2, calls, []int{0, 1, 0, 1, 0, 1, 0, 0, 0, 1}); !trial.SameReport(r, want) {
		t.Errorf("%v; want %v", r, want)
	}
}

// 12.2: the words are read from that of thread 0 on, and a phase is above all
// that were found: of those that come during the reads, the ones ahead.
func TestReadsInOrder(t *testing.T) {
	calls := []api.Call{entering(0), entering(2), entering(1)}
	for _, q := range []struct {
		picks  []int
		phases []uint64 // of the threads 0, 1 and 2
	}{
		{[]int{0, 0, 0, 0, 1, 1, 1, 1, 2, 2, 2, 2}, []uint64{1, 2, 3}},
		{[]int{1, 0, 0, 0, 0, 1, 1, 1, 2, 2, 2, 2}, []uint64{1, 1, 2}},
		{[]int{1, 2, 2, 2, 2, 1, 1, 1, 0, 0, 0, 0}, []uint64{3, 2, 1}},
		{[]int{1, 1, 2, 2, 2, 2, 1, 1, 0, 0, 0, 0}, []uint64{3, 2, 1}},
		{[]int{1, 1, 1, 2, 2, 2, 2, 1, 0, 0, 0, 0}, []uint64{2, 1, 1}},
		{[]int{2, 2, 1, 1, 1, 1, 2, 2, 0, 0, 0, 0}, []uint64{2, 1, 1}},
		{[]int{2, 1, 1, 1, 1, 2, 2, 2, 0, 0, 0, 0}, []uint64{3, 1, 2}},
	} {
		r := play(t, 3, calls, q.picks)
		if !slices.Equal(r.Words, q.phases) {
			t.Errorf("%v: %v", q, r.Words)
		}
		for _, x := range r.Events {
			want := api.Answer{Val: q.phases[calls[x.Call].Thread]}
			if x.Steps != 4 || !trial.SameAnswer(x.Answer, want) || !slices.Equal(x.Key, []int{2 * x.Resp}) {
				t.Errorf("%v: %v", q, x)
			}
		}
	}
}

// 12.2: an operation 0 of each number of threads, step by step; it has no key
// before it responds.
func TestSteps(t *testing.T) {
	for n := 1; n <= api.MaxThreads; n++ {
		for i := range n + 2 {
			r := play(t, n, []api.Call{entering(n - 1)}, slices.Repeat([]int{n - 1}, i))
			want := api.Report{Words: make([]uint64, n), Counts: api.Counts{Read: min(i, n)}, Ticks: i}
			if i > 0 {
				want.Events = []api.Event{{Inv: 1, Steps: i}}
			}
			if i > n {
				want.Events[0] = api.Event{Inv: 1, Resp: i, Steps: i, Answer: api.Answer{Val: 1}, Key: []int{2 * i}}
				want.Words[n-1] = 1
				want.Counts.Write = 1
			}
			if !trial.SameReport(r, want) {
				t.Errorf("%d threads, %d steps: %v; want %v", n, i, r, want)
			}
		}
	}
}

// 12.2: operation 1 finds the phase of any thread, that of the first one and
// that of the last one too.
func TestLooks(t *testing.T) {
	for n := 1; n <= api.MaxThreads; n++ {
		var calls []api.Call
		var picks []int
		for p := range n {
			calls = append(calls, entering(p))
			picks = append(picks, slices.Repeat([]int{p}, n+1)...)
		}
		for p := range n {
			calls = append(calls, looking(0, uint64(p)))
			picks = append(picks, 0)
		}
		r := play(t, n, calls, picks)
		for i, x := range r.Events[n:] {
			if x.Steps != 1 || !trial.SameAnswer(x.Answer, api.Answer{Val: uint64(i + 1)}) {
				t.Errorf("%d threads: %v", n, x)
			}
		}
	}
}

// 12.2: operations that respond with an error at once make no access.
func TestErrorsWithoutAccess(t *testing.T) {
	for _, q := range []struct {
		n    int
		call api.Call
		want api.Errno
	}{
		{1, looking(0, 1), api.ErrRange},
		{2, looking(0, 2), api.ErrRange},
		{16, looking(0, 16), api.ErrRange},
		{2, looking(0, 1<<32), api.ErrRange},
		{2, looking(0, 1<<63), api.ErrRange},
		{2, looking(0, math.MaxUint64), api.ErrRange},
		{2, api.Call{Kind: 2}, api.ErrKind},
		{2, api.Call{Kind: 2, A: 2}, api.ErrKind},
		{2, api.Call{Kind: -1}, api.ErrKind},
		{2, api.Call{Kind: math.MaxInt}, api.ErrKind},
		{2, api.Call{Kind: math.MinInt}, api.ErrKind},
		{2, api.Call{Obj: 1}, api.ErrObj},
		{2, api.Call{Obj: -1, Kind: 1, A: 2}, api.ErrObj},
	} {
		want := api.Report{
			Events: []api.Event{{Inv: 1, Resp: 1, Steps: 1, Answer: api.Answer{Err: q.want}, Key: []int{2}}},
			Words:  make([]uint64, q.n),
			Ticks:  1,
			Idle:   1,
		}
		if r := play(t, q.n, []api.Call{q.call}, []int{0, 0}); !trial.SameReport(r, want) {
			t.Errorf("%v: %v; want %v", q, r, want)
		}
	}
}

// 12.2: operations ignore what they have no use for.
func TestIgnoredArguments(t *testing.T) {
	const top = math.MaxUint64
	calls := []api.Call{{Kind: 0, A: top, B: top, C: top}, {Kind: 1, B: top, C: top}}
	r := play(t, 1, calls, []int{0, 0, 0})
	if len(r.Events) != 2 || !trial.SameAnswer(r.Events[0].Answer, api.Answer{Val: 1}) || !trial.SameAnswer(r.Events[1].Answer, api.Answer{Val: 1}) {
		t.Error(r)
	}
}

// 12.1: the errors of a play, in their order, and no report with them (R7).
func TestPlayErrors(t *testing.T) {
	for i, q := range trial.WrongPlays() {
		if r, e := door.Play(q.N, q.Calls, q.Picks); e != q.Want || !trial.SameReport(r, api.Report{}) {
			t.Errorf("%d: %v, %v; want %v", i, r, e, q.Want)
		}
	}
}

// 12.1: plays at the limits, and without calls.
func TestPlayLimits(t *testing.T) {
	calls := slices.Repeat([]api.Call{entering(15)}, api.MaxCalls)
	r := play(t, 16, calls, slices.Repeat([]int{15}, api.MaxPicks))
	if len(r.Events) != 1000 || r.Ticks != 17000 || r.Idle != api.MaxPicks-17000 {
		t.Fatal(len(r.Events), r.Ticks, r.Idle)
	}
	if x := r.Events[999]; x.Answer.Val != 1000 || !slices.Equal(x.Key, []int{34000}) || r.Words[15] != 1000 {
		t.Error(x, r.Words)
	}
	for n := 1; n <= api.MaxThreads; n++ {
		if r := play(t, n, nil, nil); !trial.SameReport(r, api.Report{Words: make([]uint64, n)}) {
			t.Errorf("%d threads: %v", n, r)
		}
	}
}

// W6: the place of a door in the memory changes no event, and its words alone;
// of two doors each one has its own phases.
func TestElsewhere(t *testing.T) {
	calls := []api.Call{entering(0), entering(1), entering(1), looking(0, 1), looking(0, 2)}
	picks := []int{0, 1, 0, 0, 1, 1, 1, 1, 1, 0, 0}
	near := play(t, 2, calls, picks)
	away := slices.Clone(calls)
	for i := range away {
		away[i].Obj = 2
	}
	far, e := loom.Play(2, away, picks, door.New(), loom.NewCells(1), door.New(), door.New())
	if e != api.OK || len(far.Events) != 5 || !trial.SameEvents(near.Events, far.Events) || near.Counts != far.Counts {
		t.Errorf("%v; %v; %v", e, near, far)
	}
	if !slices.Equal(near.Words, []uint64{1, 2}) || !slices.Equal(far.Words, []uint64{0, 0, 0, 1, 2, 0, 0}) {
		t.Errorf("%v; %v", near.Words, far.Words)
	}
}

// R4: the arguments stay what they are, and two reports share no memory.
func TestReportsAlone(t *testing.T) {
	calls := append(make([]api.Call, 0, 4), entering(0), looking(1, 0))
	picks := append(make([]int, 0, 9), 0, 0, 0, 1)
	before, picksBefore := slices.Clone(calls[:4]), slices.Clone(picks[:9])
	first, second := play(t, 2, calls, picks), play(t, 2, calls, picks)
	if !slices.Equal(calls[:4], before) || !slices.Equal(picks[:9], picksBefore) {
		t.Error("Play changed its arguments")
	}
	first.Words[0] = 99
	first.Events[0].Key[0] = 99
	first.Events[1] = api.Event{}
	if !trial.SameReport(second, play(t, 2, calls, picks)) {
		t.Error("two reports share memory:", second)
	}
}

// 12.1 to 12.4: all plays of a few threads, and what the chapter says of each.
func TestAllPlays(t *testing.T) {
	for _, q := range []struct {
		n, picks int
		calls    []api.Call
	}{
		{1, 8, []api.Call{looking(0, 0), entering(0), {Kind: 2}, entering(0), looking(0, 1), looking(0, 0)}},
		{2, 14, []api.Call{entering(0), entering(1), looking(0, 1), entering(1), looking(1, 0), entering(0)}},
		{2, 12, []api.Call{entering(0), entering(0), entering(0), entering(0), looking(1, 0), entering(1), looking(1, 0)}},
		{3, 9, []api.Call{entering(0), entering(1), looking(2, 0), entering(2), looking(0, 2), {Thread: 1, Obj: 1}, looking(1, 3)}},
		{4, 7, []api.Call{entering(0), looking(1, 0), looking(2, 3), entering(3), looking(1, 3)}},
	} {
		for picks := range trial.Rows(q.n, q.picks) {
			checkPlay(t, q.n, q.calls, picks)
		}
	}
}

// 12.1 to 12.4: long plays of many threads.
func TestLongPlays(t *testing.T) {
	for seed := range 150 {
		next := trial.Numbers(uint64(seed))
		n := 1 + next(api.MaxThreads)
		var calls []api.Call
		for range next(200) {
			calls = append(calls, api.Call{Thread: next(n), Obj: next(60) / 59, Kind: next(41) / 20, A: uint64(next(n + 1))})
		}
		var picks []int
		for range next(2000) {
			picks = append(picks, next(n+1))
		}
		checkPlay(t, n, calls, picks)
	}
}

// checkPlay checks a play against the accesses of the chapter, and all that
// follows from them.
func checkPlay(t *testing.T, n int, calls []api.Call, picks []int) {
	t.Helper()
	r := play(t, n, calls, picks)
	w, ok := trial.Play(n, n, calls, picks, described(n))
	if !ok {
		t.Fatalf("no play of %v", calls)
	}
	for i := range w.Report.Events {
		if x := &w.Report.Events[i]; x.Resp != 0 {
			x.Key = []int{2 * x.Resp}
		}
	}
	if !trial.SameReport(r, w.Report) {
		t.Errorf("want %v", w.Report)
	}
	checkPhases(t, calls, r)
	checkSteps(t, n, calls, r)
	if t.Failed() {
		t.Fatalf("%d threads, %v of %v: %v", n, picks, calls, r)
	}
}

// described is how the calls on a door go on, as the chapter tells it.
func described(n int) trial.Next {
	return trial.Straight(func(c api.Call, access func(trial.Access) uint64) api.Answer {
		switch {
		case c.Obj != 0:
			return api.Answer{Err: api.ErrObj}
		case c.Kind == 1 && c.A >= uint64(n):
			return api.Answer{Err: api.ErrRange}
		case c.Kind == 1:
			return api.Answer{Val: access(trial.Access{Kind: 'R', At: int(c.A)})}
		case c.Kind != 0:
			return api.Answer{Err: api.ErrKind}
		}
		var results []uint64
		for at := range n {
			results = append(results, access(trial.Access{Kind: 'R', At: at}))
		}
		phase := slices.Max(results) + 1
		access(trial.Access{Kind: 'W', At: c.Thread, X: phase})
		return api.Answer{Val: phase}
	})
}

// checkPhases checks that phases increase from each operation 0 to those that
// come after it, those of its thread among them, and that none is above the
// number of operations 0 that were invoked (12.3).
func checkPhases(t *testing.T, calls []api.Call, r api.Report) {
	t.Helper()
	var entries []api.Event
	for _, x := range r.Events {
		if calls[x.Call].Kind == 0 && x.Answer.Err == api.OK {
			entries = append(entries, x)
		}
	}
	for _, x := range entries {
		if x.Resp == 0 {
			continue
		}
		if x.Answer.Val > uint64(len(entries)) {
			t.Errorf("%v: above %d", x, len(entries))
		}
		for _, y := range entries {
			if y.Resp != 0 && x.Resp < y.Inv && x.Answer.Val >= y.Answer.Val {
				t.Errorf("%v, and after it %v", x, y)
			}
		}
	}
	for _, w := range r.Words {
		if w > uint64(len(entries)) {
			t.Errorf("the word %d is above %d", w, len(entries))
		}
	}
}

// checkSteps checks how many steps operations make (12.4).
func checkSteps(t *testing.T, n int, calls []api.Call, r api.Report) {
	t.Helper()
	for _, x := range r.Events {
		want := 1
		if calls[x.Call].Kind == 0 && x.Answer.Err == api.OK {
			want = n + 1
		}
		if x.Steps > want || (x.Resp != 0) != (x.Steps == want) {
			t.Errorf("%v: not %d steps", x, want)
		}
	}
}
