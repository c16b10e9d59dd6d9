package maxreg_test

import (
	"math"
	"slices"
	"testing"

	"roundelay/api"
	"roundelay/loom"
	"roundelay/maxreg"
	"roundelay/trial"
)

// play returns the play of a register of m bits, which must have no error.
func play(t *testing.T, n, m int, calls []api.Call, picks []int) api.Report {
	t.Helper()
	r, e := maxreg.Play(n, m, calls, picks)
	if e != api.OK {
		t.Fatalf("Play(%d, %d, %v, %v): %v", n, m, calls, picks, e)
	}
	return r
}

// writing is a call that writes a number.
func writing(thread int, number uint64) api.Call {
	return api.Call{Thread: thread, Kind: 0, A: number}
}

// reading is a call that reads.
func reading(thread int) api.Call {
	return api.Call{Thread: thread, Kind: 1}
}

// 10.3: the example of the chapter.
func TestExample(t *testing.T) {
	calls := []api.Call{writing(0, 2), reading(1)}
	want := api.Report{
		Events: []api.Event{
			{Call: 0, Inv: 1, Resp: 2, Steps: 2, Key: []int{4, 2}},
			{Call: 1, Inv: 3, Resp: 4, Steps: 2, Answer: api.Answer{Val: 2}, Key: []int{8}},
		},
		Words:  []uint64{1, 0, 0},
		Counts: api.Counts{Read: 3, Write: 1},
		Ticks:  4,
	}
	if r := play(t, 2, 2, calls, []int{0, 0, 1, 1}); !trial.SameReport(r, want) {
		t.Errorf("%v; want %v", r, want)
	}
}

// 10.2, 10.3: of the numbers that are written one after the other, the greatest
// one is read, in registers of any size; each one sets the switches of its bits.
func TestGreatestNumber(t *testing.T) {
	for m := 1; m <= 12; m++ {
		top := uint64(1)<<m - 1
		calls := []api.Call{reading(0)}
		greatest := []uint64{0}
		for _, v := range []uint64{0, 1, top / 3, top / 2, top/2 + 1, top / 5, top - 1, top, 0} {
			calls = append(calls, writing(0, v), reading(0))
			greatest = append(greatest, 0, max(v, greatest[len(greatest)-1]))
		}
		r := play(t, 1, m, calls, make([]int, m*len(calls)))
		if len(r.Events) != len(calls) || len(r.Words) != int(top) {
			t.Fatalf("%d bits: %d events, %d words", m, len(r.Events), len(r.Words))
		}
		for i, x := range r.Events {
			if x.Resp == 0 || !trial.SameAnswer(x.Answer, api.Answer{Val: greatest[i]}) {
				t.Errorf("%d bits: %v: %v; want %d", m, calls[i], x, greatest[i])
			}
		}
	}
}

// 10.2: the switches that a write reads and sets, step by step.
func TestWriteSteps(t *testing.T) {
	for _, q := range []struct {
		m      int
		number uint64
		set    []int // one after the other
		reads  int   // before that
	}{
		{1, 0, nil, 1},
		{1, 1, []int{1}, 0},
		{2, 3, []int{3, 1}, 0},
		{3, 0, nil, 3},
		{3, 1, []int{4}, 2},
		{3, 2, []int{2}, 2},
		{3, 3, []int{5, 2}, 1},
		{3, 4, []int{1}, 2},
		{3, 5, []int{6, 1}, 1},
		{3, 6, []int{3, 1}, 1},
		{3, 7, []int{7, 3, 1}, 0},
		{12, 4095, []int{4095, 2047, 1023, 511, 255, 127, 63, 31, 15, 7, 3, 1}, 0},
	} {
		words := make([]uint64, 1<<q.m-1)
		for i := range q.m {
			if i >= q.reads {
				words[q.set[i-q.reads]-1] = 1
			}
			r := play(t, 1, q.m, []api.Call{writing(0, q.number)}, make([]int, i+1))
			counts := api.Counts{Read: min(i+1, q.reads), Write: max(i+1-q.reads, 0)}
			if !slices.Equal(r.Words, words) || r.Counts != counts || r.Events[0].Steps != i+1 || (r.Events[0].Resp != 0) != (i+1 == q.m) {
				t.Errorf("%d of %d bits, step %d: %v", q.number, q.m, i+1, r)
			}
		}
	}
}

// 10.2, 10.4: the way down ends at a switch that is set; what is to the right
// of the way is set nevertheless.
func TestWayEnds(t *testing.T) {
	for _, q := range []struct {
		first, second uint64
		steps         int
		set           []int
		key           []int
	}{
		{4, 0, 1, []int{1}, []int{8}},
		{4, 3, 1, []int{1}, []int{8}},
		{2, 1, 2, []int{2}, []int{10}},
		{6, 5, 2, []int{1, 3}, []int{8}},
		{6, 4, 2, []int{1, 3}, []int{8}},
		{5, 4, 3, []int{1, 6}, []int{10}},
		{3, 2, 3, []int{2, 5}, []int{10}},
		{7, 6, 3, []int{1, 3, 7}, []int{8}},
	} {
		words := make([]uint64, 7)
		for _, k := range q.set {
			words[k-1] = 1
		}
		r := play(t, 1, 3, []api.Call{writing(0, q.first), writing(0, q.second), reading(0)}, make([]int, 9))
		x := r.Events[1]
		if x.Steps != q.steps || x.Resp != 3+q.steps || !trial.SameAnswer(x.Answer, api.Answer{}) || !slices.Equal(x.Key, q.key) {
			t.Errorf("%v: %v", q, x)
		}
		if !slices.Equal(r.Words, words) || r.Events[2].Answer.Val != q.first {
			t.Errorf("%v: %v", q, r)
		}
	}
}

// 10.4: the keys of operations that meet, and of those that have not responded.
func TestKeys(t *testing.T) {
	for _, q := range []struct {
		m     int
		calls []api.Call
		picks []int
		keys  [][]int // of the calls
	}{
		// A read that goes left where a switch is set later is before that, also on the way to another switch.
		{2, []api.Call{reading(0), writing(1, 2)}, []int{0, 1, 1, 0}, [][]int{{5, 8}, {6, 4}}},
		{2, []api.Call{reading(0), writing(1, 2), writing(1, 1)}, []int{0, 1, 1, 0, 1}, [][]int{{5, 8}, {6, 4}, {10}}},
		{2, []api.Call{reading(0), writing(1, 1), writing(2, 2)}, []int{0, 1, 1, 2, 2, 0}, [][]int{{9, 12}, {6, 4}, {10, 8}}},
		{2, []api.Call{reading(0), writing(1, 1), writing(2, 2)}, []int{0, 1, 2, 2, 1, 0}, [][]int{{7, 12}, {7, 10, 4}, {8, 6}}},
		// A write without a read begins with its invocation.
		{1, []api.Call{writing(0, 1), reading(1)}, []int{1, 0}, [][]int{{4, 4}, {2}}},
		{2, []api.Call{writing(0, 3), reading(1)}, []int{0, 1, 0}, [][]int{{6, 2, 2}, nil}},
		// A write has no key before its way has ended, nor before all its switches are set by any operation.
		{2, []api.Call{writing(0, 0)}, []int{0}, [][]int{nil}},
		{2, []api.Call{writing(0, 1)}, []int{0}, [][]int{nil}},
		{2, []api.Call{writing(0, 2)}, []int{0}, [][]int{nil}},
		{2, []api.Call{writing(0, 3)}, []int{0}, [][]int{nil}},
		{2, []api.Call{writing(0, 3), writing(1, 2)}, []int{0, 1, 1}, [][]int{{6, 2, 2}, {6, 4}}},
		{2, []api.Call{writing(0, 2), writing(1, 2)}, []int{0, 1, 1}, [][]int{{6, 2}, {6, 4}}},
		{2, []api.Call{writing(0, 2), writing(1, 3)}, []int{1, 1, 0}, [][]int{{6}, {4, 2, 2}}},
		{3, []api.Call{writing(0, 4), writing(1, 7)}, []int{1, 1, 1, 0}, [][]int{{8}, {6, 4, 2, 2}}},
		{3, []api.Call{writing(0, 4), writing(1, 4)}, []int{0, 1, 1, 1}, [][]int{nil, {8, 6}}},
		{3, []api.Call{writing(0, 4), writing(1, 4)}, []int{0, 1, 1, 1, 0}, [][]int{{10}, {8, 6}}},
		{2, []api.Call{writing(0, 1), writing(1, 1), writing(2, 2)}, []int{0, 1, 2, 2, 1}, [][]int{{7, 10, 2}, {7, 10, 4}, {8, 6}}},
		// A read has none before it responds, even if the rest of its way is known.
		{2, []api.Call{writing(0, 3), reading(1)}, []int{0, 0, 1}, [][]int{{4, 2, 2}, nil}},
		// The first write of a switch counts, not a later one.
		{1, []api.Call{writing(0, 1), writing(1, 1), reading(1)}, []int{0, 1, 1}, [][]int{{2, 2}, {4}, {6}}},
	} {
		r := play(t, 3, q.m, q.calls, q.picks)
		for _, x := range r.Events {
			if len(q.keys) <= x.Call || !slices.Equal(x.Key, q.keys[x.Call]) {
				t.Errorf("%v of %v: call %d: %v", q.picks, q.calls, x.Call, x)
			}
		}
	}
}

// 10.2, 10.3: operations that respond with an error at once make no access.
func TestErrorsWithoutAccess(t *testing.T) {
	for _, q := range []struct {
		m    int
		call api.Call
		want api.Errno
	}{
		{1, writing(0, 2), api.ErrRange},
		{2, writing(0, 4), api.ErrRange},
		{2, writing(0, 5), api.ErrRange},
		{11, writing(0, 2048), api.ErrRange},
		{12, writing(0, 4096), api.ErrRange},
		{12, writing(0, 1<<32), api.ErrRange},
		{12, writing(0, 1<<63), api.ErrRange},
		{12, writing(0, math.MaxUint64), api.ErrRange},
		{1, api.Call{Kind: 2}, api.ErrKind},
		{1, api.Call{Kind: 2, A: 2}, api.ErrKind},
		{1, api.Call{Kind: -1, A: 2}, api.ErrKind},
		{1, api.Call{Kind: math.MaxInt}, api.ErrKind},
		{1, api.Call{Kind: math.MinInt}, api.ErrKind},
		{1, api.Call{Obj: 1}, api.ErrObj},
		{1, api.Call{Obj: -1, Kind: 2, A: 2}, api.ErrObj},
	} {
		want := api.Report{
			Events: []api.Event{{Inv: 1, Resp: 1, Steps: 1, Answer: api.Answer{Err: q.want}, Key: []int{2}}},
			Words:  make([]uint64, 1<<q.m-1),
			Ticks:  1,
			Idle:   1,
		}
		if r := play(t, 1, q.m, []api.Call{q.call}, []int{0, 0}); !trial.SameReport(r, want) {
			t.Errorf("%v of %d bits: %v; want %v", q.call, q.m, r, want)
		}
	}
}

// 10.2, 10.3: operations ignore what they have no use for.
func TestIgnoredArguments(t *testing.T) {
	const top = math.MaxUint64
	calls := []api.Call{{Kind: 0, A: 1, B: top, C: top}, {Kind: 1, A: top, B: top, C: top}}
	r := play(t, 1, 2, calls, []int{0, 0, 0, 0})
	if len(r.Events) != 2 || !trial.SameAnswer(r.Events[0].Answer, api.Answer{}) || !trial.SameAnswer(r.Events[1].Answer, api.Answer{Val: 1}) {
		t.Error(r)
	}
}

// 10.1: the errors of a play, in their order, and no report with them (R7).
func TestPlayErrors(t *testing.T) {
	for i, q := range trial.WrongPlays() {
		for _, m := range []int{1, 0} {
			if r, e := maxreg.Play(q.N, m, q.Calls, q.Picks); e != q.Want || !trial.SameReport(r, api.Report{}) {
				t.Errorf("%d, %d bits: %v, %v; want %v", i, m, r, e, q.Want)
			}
		}
	}
	for _, m := range []int{0, -1, 13, 64, 65, math.MaxInt, math.MinInt} {
		if r, e := maxreg.Play(2, m, []api.Call{writing(0, 0)}, []int{0}); e != api.ErrRange || !trial.SameReport(r, api.Report{}) {
			t.Errorf("%d bits: %v, %v", m, r, e)
		}
	}
}

// 10.1: plays at the limits, and without calls.
func TestPlayLimits(t *testing.T) {
	calls := make([]api.Call, api.MaxCalls)
	for i := range calls {
		calls[i] = writing(15, uint64(i))
	}
	calls[api.MaxCalls-1].Kind = 1
	picks := make([]int, api.MaxPicks)
	for i := range picks {
		picks[i] = 15
	}
	r := play(t, 16, 12, calls, picks)
	if len(r.Events) != 1000 || r.Ticks != 12000 || r.Idle != api.MaxPicks-12000 || len(r.Words) != 4095 {
		t.Error(len(r.Events), r.Ticks, r.Idle, len(r.Words))
	}
	if x := r.Events[999]; x.Answer.Val != 998 || x.Steps != 12 || !slices.Equal(x.Key, []int{24000}) {
		t.Error(x)
	}
	for m := 1; m <= 12; m++ {
		if r := play(t, 1, m, nil, nil); !trial.SameReport(r, api.Report{Words: make([]uint64, 1<<m-1)}) {
			t.Errorf("%d bits: %v", m, r)
		}
	}
}

// W6: the place of a register in the memory changes no event, and its words
// alone; of two registers each one keeps its own number.
func TestElsewhere(t *testing.T) {
	calls := []api.Call{writing(0, 3), writing(1, 2), reading(1), writing(0, 0)}
	picks := []int{0, 1, 1, 1, 0, 1, 0, 0}
	near := play(t, 2, 2, calls, picks)
	away := slices.Clone(calls)
	for i := range away {
		away[i].Obj = 2
	}
	far, e := loom.Play(2, away, picks, maxreg.New(1), loom.NewCells(1), maxreg.New(2), maxreg.New(2))
	if e != api.OK || len(far.Events) != 4 || !trial.SameEvents(near.Events, far.Events) || near.Counts != far.Counts {
		t.Errorf("%v; %v; %v", e, near, far)
	}
	if !slices.Equal(near.Words, []uint64{1, 0, 1}) || !slices.Equal(far.Words, []uint64{0, 0, 1, 0, 1, 0, 0, 0}) {
		t.Errorf("%v; %v", near.Words, far.Words)
	}
	both := []api.Call{{Kind: 0, A: 1}, {Obj: 1, Kind: 0, A: 2}, {Kind: 1}, {Obj: 1, Kind: 1}}
	r, e := loom.Play(1, both, make([]int, 8), maxreg.New(2), maxreg.New(2))
	if e != api.OK || len(r.Events) != 4 || r.Events[2].Answer.Val != 1 || r.Events[3].Answer.Val != 2 {
		t.Error(e, r)
	}
}

// R4: the arguments stay what they are, and two reports share no memory.
func TestReportsAlone(t *testing.T) {
	calls := append(make([]api.Call, 0, 4), writing(0, 3), reading(1))
	picks := append(make([]int, 0, 6), 0, 0, 1, 1)
	before, picksBefore := slices.Clone(calls[:4]), slices.Clone(picks[:6])
	first, second := play(t, 2, 2, calls, picks), play(t, 2, 2, calls, picks)
	if !slices.Equal(calls[:4], before) || !slices.Equal(picks[:6], picksBefore) {
		t.Error("Play changed its arguments")
	}
	first.Words[0] = 99
	first.Events[0].Key[0] = 99
	first.Events[1] = api.Event{}
	if !trial.SameReport(second, play(t, 2, 2, calls, picks)) {
		t.Error("two reports share memory:", second)
	}
}
