package split_test

import (
	"math"
	"slices"
	"testing"

	"roundelay/api"
	"roundelay/loom"
	"roundelay/split"
	"roundelay/trial"
)

// play returns the play of a grid, which must have no error.
func play(t *testing.T, n int, calls []api.Call, picks []int) api.Report {
	t.Helper()
	r, e := split.Play(n, calls, picks)
	if e != api.OK {
		t.Fatalf("Play(%d, %v, %v): %v", n, calls, picks, e)
	}
	return r
}

// each returns a call of each thread.
func each(n int) []api.Call {
	var calls []api.Call
	for p := range n {
		calls = append(calls, api.Call{Thread: p})
	}
	return calls
}

// words is how many words a grid has.
func words(n int) int {
	return n * (n + 1)
}

// lockstep makes picks of all threads by turns, so many times.
func lockstep(n, times int) []int {
	var picks []int
	for range times {
		for p := range n {
			picks = append(picks, p)
		}
	}
	return picks
}

// 39.2: the example of the chapter, step by step: W, R, W, R. A name that has not
// been taken is none, and so is its key.
func TestExample(t *testing.T) {
	for i, want := range []api.Report{
		{Words: []uint64{0, 0}},
		{Words: []uint64{1, 0}, Counts: api.Counts{Write: 1}},
		{Words: []uint64{1, 0}, Counts: api.Counts{Write: 1, Read: 1}},
		{Words: []uint64{1, 1}, Counts: api.Counts{Write: 2, Read: 1}},
		{Words: []uint64{1, 1}, Counts: api.Counts{Write: 2, Read: 2}},
	} {
		want.Ticks = i
		if i > 0 {
			want.Events = []api.Event{{Inv: 1, Steps: i}}
		}
		if i == 4 {
			want.Events = []api.Event{{Inv: 1, Resp: 4, Steps: 4, Key: []int{8}}}
		}
		if r := play(t, 1, each(1), make([]int, i)); !trial.SameReport(r, want) {
			t.Errorf("%d steps: %v; want %v", i, r, want)
		}
	}
}

// 39.1, 39.2: two threads of three take the splitter for open, and the one that wrote
// last stays; the other one moves to the next row, and a third one to the next column.
func TestRowAndColumn(t *testing.T) {
	calls := each(3)
	picks := []int{1, 1, 0, 0, 1, 0, 1, 0, 2, 2, 2, 1, 2, 1, 2, 1, 2, 1, 2, 1}
	want := api.Report{
		Events: []api.Event{
			{Call: 1, Inv: 1, Resp: 18, Steps: 8, Answer: api.Answer{Val: 2}, Key: []int{36}},
			{Call: 0, Inv: 3, Resp: 8, Steps: 4, Answer: api.Answer{Val: 0}, Key: []int{16}},
			{Call: 2, Inv: 9, Resp: 17, Steps: 6, Answer: api.Answer{Val: 1}, Key: []int{34}},
		},
		Words:  []uint64{3, 1, 3, 1, 2, 1, 0, 0, 0, 0, 0, 0},
		Counts: api.Counts{Read: 9, Write: 9},
		Ticks:  18,
		Idle:   2,
	}
	if r := play(t, 3, calls, picks); !trial.SameReport(r, want) {
		t.Errorf("%v; want %v", r, want)
	}
}

// 39.2: a thread that is overtaken by another one moves on to the next row, where it
// finds that the splitter is closed, and to the column after that.
func TestRowThenColumn(t *testing.T) {
	calls := each(3)
	var picks []int
	for _, part := range [][]int{
		{0, 0, 1, 1, 2, 2}, // all of them see that the first splitter is open
		{1, 1, 1, 1, 1, 1}, // 1 moves down, and takes the name 2
		{0, 0, 0, 0},       // 0 moves down, finds that closed, and moves to the column 1
		{0, 0, 0, 0, 2, 2},
	} {
		picks = append(picks, part...)
	}
	r := play(t, 3, calls, picks)
	want := []api.Event{
		{Call: 0, Inv: 1, Resp: 20, Steps: 10, Answer: api.Answer{Val: 4}, Key: []int{40}},
		{Call: 1, Inv: 3, Resp: 12, Steps: 8, Answer: api.Answer{Val: 2}, Key: []int{24}},
		{Call: 2, Inv: 5, Resp: 22, Steps: 4, Answer: api.Answer{Val: 0}, Key: []int{44}},
	}
	if !trial.SameEvents(r.Events, want) {
		t.Errorf("%v; want %v", r.Events, want)
	}
	if !slices.Equal(r.Words, []uint64{3, 1, 0, 0, 1, 1, 0, 0, 1, 1, 0, 0}) {
		t.Error(r.Words)
	}
}

// 39.2, 39.4: one after the other, the threads move along the row 0; the last one ends
// in the last column.
func TestOneAfterTheOther(t *testing.T) {
	for n := 1; n <= api.MaxThreads; n++ {
		var picks []int
		for p := range n {
			picks = append(picks, slices.Repeat([]int{p}, 2*p+4)...)
		}
		r := play(t, n, each(n), picks)
		if len(r.Events) != n || r.Idle != 0 {
			t.Fatalf("%d threads: %v", n, r)
		}
		for p, x := range r.Events {
			if x.Steps != 2*p+4 || !trial.SameAnswer(x.Answer, api.Answer{Val: uint64(p * (p + 1) / 2)}) {
				t.Errorf("%d threads: %v", n, x)
			}
		}
		want := make([]uint64, words(n))
		for c := range n {
			at := c * (c + 1)
			want[at], want[at+1] = uint64(n), 1
		}
		if !slices.Equal(r.Words, want) {
			t.Errorf("%d threads: %v; want %v", n, r.Words, want)
		}
	}
}

// 39.2, 39.4: by turns, all threads but the last one move along the column 0; the first
// thread ends in the last row, with as many steps as there can be.
func TestByTurns(t *testing.T) {
	for n := 1; n <= api.MaxThreads; n++ {
		r := play(t, n, each(n), lockstep(n, 4*n))
		if len(r.Events) != n || r.Counts.Fault != 0 {
			t.Fatalf("%d threads: %v", n, r)
		}
		for p, x := range r.Events {
			row := n - 1 - p
			if x.Steps != 4*(row+1) || !trial.SameAnswer(x.Answer, api.Answer{Val: uint64(row*(row+1)/2 + row)}) {
				t.Errorf("%d threads: %v", n, x)
			}
		}
		want := make([]uint64, words(n))
		for row := range n {
			at := row*(row+1) + 2*row
			want[at], want[at+1] = uint64(n-row), 1
		}
		if !slices.Equal(r.Words, want) {
			t.Errorf("%d threads: %v; want %v", n, r.Words, want)
		}
	}
}

// 39.2: operations that respond with an error at once make no access.
func TestErrorsWithoutAccess(t *testing.T) {
	for _, q := range []struct {
		call api.Call
		want api.Errno
	}{
		{api.Call{Kind: 1}, api.ErrKind},
		{api.Call{Kind: -1}, api.ErrKind},
		{api.Call{Kind: math.MaxInt}, api.ErrKind},
		{api.Call{Kind: math.MinInt}, api.ErrKind},
		{api.Call{Obj: 1}, api.ErrObj},
		{api.Call{Obj: -1, Kind: 1}, api.ErrObj},
	} {
		want := api.Report{
			Events: []api.Event{{Inv: 1, Resp: 1, Steps: 1, Answer: api.Answer{Err: q.want}, Key: []int{2}}},
			Words:  make([]uint64, words(2)),
			Ticks:  1,
			Idle:   1,
		}
		if r := play(t, 2, []api.Call{q.call}, []int{0, 0}); !trial.SameReport(r, want) {
			t.Errorf("%v: %v; want %v", q, r, want)
		}
	}
}

// 39.2: a thread that has taken a name takes no other one; a wrong call takes none,
// and what one thread has taken is no matter of another one.
func TestNamed(t *testing.T) {
	calls := []api.Call{{Kind: 1}, {Obj: 1}, {}, {}, {Kind: 1}, {}, {Thread: 1}, {Thread: 1}}
	picks := []int{0, 0, 0, 0, 0, 0, 0, 0, 0, 1, 1, 1, 1, 1, 1, 1}
	r := play(t, 2, calls, picks)
	want := []api.Event{
		{Call: 0, Inv: 1, Resp: 1, Steps: 1, Answer: api.Answer{Err: api.ErrKind}, Key: []int{2}},
		{Call: 1, Inv: 2, Resp: 2, Steps: 1, Answer: api.Answer{Err: api.ErrObj}, Key: []int{4}},
		{Call: 2, Inv: 3, Resp: 6, Steps: 4, Key: []int{12}},
		{Call: 3, Inv: 7, Resp: 7, Steps: 1, Answer: api.Answer{Err: api.ErrState}, Key: []int{14}},
		{Call: 4, Inv: 8, Resp: 8, Steps: 1, Answer: api.Answer{Err: api.ErrKind}, Key: []int{16}},
		{Call: 5, Inv: 9, Resp: 9, Steps: 1, Answer: api.Answer{Err: api.ErrState}, Key: []int{18}},
		{Call: 6, Inv: 10, Resp: 15, Steps: 6, Answer: api.Answer{Val: 1}, Key: []int{30}},
		{Call: 7, Inv: 16, Resp: 16, Steps: 1, Answer: api.Answer{Err: api.ErrState}, Key: []int{32}},
	}
	if !trial.SameEvents(r.Events, want) || r.Counts != (api.Counts{Read: 5, Write: 5}) {
		t.Errorf("%v; want %v", r, want)
	}
}

// 39.2: operations ignore what they have no use for.
func TestIgnoredArguments(t *testing.T) {
	const top = math.MaxUint64
	r := play(t, 1, []api.Call{{A: top, B: top, C: top}}, make([]int, 4))
	if len(r.Events) != 1 || r.Events[0].Resp != 4 || !trial.SameAnswer(r.Events[0].Answer, api.Answer{}) || !slices.Equal(r.Words, []uint64{1, 1}) {
		t.Error(r)
	}
}

// 39.1: the errors of a play, in their order, and no report with them (R7).
func TestPlayErrors(t *testing.T) {
	for i, q := range trial.WrongPlays() {
		if r, e := split.Play(q.N, q.Calls, q.Picks); e != q.Want || !trial.SameReport(r, api.Report{}) {
			t.Errorf("%d: %v, %v; want %v", i, r, e, q.Want)
		}
	}
}

// 39.1: plays at the limits, and without calls.
func TestPlayLimits(t *testing.T) {
	calls := slices.Repeat([]api.Call{{Thread: 15}}, api.MaxCalls)
	r := play(t, 16, calls, slices.Repeat([]int{15}, api.MaxPicks))
	if len(r.Events) != 1000 || r.Ticks != 1003 || r.Idle != api.MaxPicks-1003 || r.Counts != (api.Counts{Read: 2, Write: 2}) {
		t.Error(len(r.Events), r.Ticks, r.Idle, r.Counts)
	}
	for n := 1; n <= api.MaxThreads; n++ {
		if r := play(t, n, nil, nil); !trial.SameReport(r, api.Report{Words: make([]uint64, words(n))}) {
			t.Errorf("%d threads: %v", n, r)
		}
	}
}

// W6: the place of a grid in the memory changes no event, and its words alone; of two
// grids each one has its own names.
func TestElsewhere(t *testing.T) {
	calls := []api.Call{{Thread: 0}, {Thread: 1}, {Thread: 2}, {Thread: 0}}
	picks := append(lockstep(3, 12), 0)
	near := play(t, 3, calls, picks)
	away := slices.Clone(calls)
	for i := range away {
		away[i].Obj = 2
	}
	far, e := loom.Play(3, away, picks, split.New(), loom.NewCells(1), split.New(), split.New())
	if e != api.OK || len(far.Events) != 4 || !trial.SameEvents(near.Events, far.Events) || near.Counts != far.Counts {
		t.Errorf("%v; %v; %v", e, near, far)
	}
	want := slices.Concat(make([]uint64, 13), near.Words, make([]uint64, 12))
	if !slices.Equal(near.Words, []uint64{3, 1, 0, 0, 2, 1, 0, 0, 0, 0, 1, 1}) || !slices.Equal(far.Words, want) {
		t.Errorf("%v; %v", near.Words, far.Words)
	}
	both := []api.Call{{}, {Obj: 1}, {}, {Obj: 1}}
	r, e := loom.Play(2, both, make([]int, 10), split.New(), split.New())
	if e != api.OK || len(r.Events) != 4 || r.Events[1].Answer.Err != api.OK || r.Events[2].Answer.Err != api.ErrState || r.Events[3].Answer.Err != api.ErrState {
		t.Error(r, e)
	}
}

// R5: a grid that is played again begins as it began before.
func TestAgain(t *testing.T) {
	g := split.New()
	first, _ := loom.Play(2, each(2), lockstep(2, 8), g)
	second, _ := loom.Play(2, each(2), lockstep(2, 8), g)
	if len(first.Events) != 2 || first.Events[0].Resp == 0 || !trial.SameReport(first, second) {
		t.Errorf("%v; %v", first, second)
	}
}

// R4: the arguments stay what they are, and two reports share no memory.
func TestReportsAlone(t *testing.T) {
	calls := append(make([]api.Call, 0, 4), each(2)...)
	picks := append(make([]int, 0, 9), 0, 0, 0, 0, 1)
	before, picksBefore := slices.Clone(calls[:4]), slices.Clone(picks[:9])
	first, second := play(t, 2, calls, picks), play(t, 2, calls, picks)
	if !slices.Equal(calls[:4], before) || !slices.Equal(picks[:9], picksBefore) {
		t.Error("Play changed its arguments")
	}
	first.Words[0] = 99
	first.Events[0].Key[0] = 99
	first.Events[1] = api.Event{}
	if !trial.SameReport(second, play(t, 2, calls, picks)) {
		t.Error("two reports share memory:", second)
	}
}
