package count_test

import (
	"math"
	"slices"
	"testing"

	"roundelay/api"
	"roundelay/count"
	"roundelay/loom"
	"roundelay/trial"
)

// play returns the play of a counter of m bits, which must have no error.
func play(t *testing.T, n, m int, calls []api.Call, picks []int) api.Report {
	t.Helper()
	r, e := count.Play(n, m, calls, picks)
	if e != api.OK {
		t.Fatalf("Play(%d, %d, %v, %v): %v", n, m, calls, picks, e)
	}
	return r
}

// counting is a call that counts.
func counting(thread int) api.Call {
	return api.Call{Thread: thread, Kind: 0}
}

// reading is a call that reads.
func reading(thread int) api.Call {
	return api.Call{Thread: thread, Kind: 1}
}

// leavesOf is the least power of two that is not below n.
func leavesOf(n int) int {
	for _, l := range []int{1, 2, 4, 8} {
		if n <= l {
			return l
		}
	}
	return 16
}

// wordsOf is how many words a counter has.
func wordsOf(n, m int) int {
	return n + (leavesOf(n)-1)*(1<<m-1)
}

// 11.2: the example of the chapter, and a read that follows it.
func TestExample(t *testing.T) {
	calls := []api.Call{counting(0), reading(1)}
	want := api.Report{
		Events: []api.Event{
			{Call: 0, Inv: 1, Resp: 5, Steps: 5, Key: []int{10}},
			{Call: 1, Inv: 6, Resp: 7, Steps: 2, Answer: api.Answer{Val: 1}, Key: []int{14}},
		},
		Words:  []uint64{1, 0, 0, 1, 0},
		Counts: api.Counts{Read: 5, Write: 2},
		Ticks:  7,
	}
	if r := play(t, 2, 2, calls, []int{0, 0, 0, 0, 0, 1, 1}); !trial.SameReport(r, want) {
		t.Errorf("%v; want %v", r, want)
	}
	for i, made := range []struct {
		counts api.Counts
		words  []uint64
	}{
		{api.Counts{}, []uint64{0, 0, 0, 0, 0}},
		{api.Counts{Write: 1}, []uint64{1, 0, 0, 0, 0}},
		{api.Counts{Read: 1, Write: 1}, []uint64{1, 0, 0, 0, 0}},
		{api.Counts{Read: 2, Write: 1}, []uint64{1, 0, 0, 0, 0}},
		{api.Counts{Read: 3, Write: 1}, []uint64{1, 0, 0, 0, 0}},
		{api.Counts{Read: 3, Write: 2}, []uint64{1, 0, 0, 1, 0}},
	} {
		if r := play(t, 2, 2, calls, make([]int, i)); r.Counts != made.counts || !slices.Equal(r.Words, made.words) {
			t.Errorf("after %d steps: %v; want %v", i, r, made)
		}
	}
}

// 11.2: what counts of single threads write, and how many accesses they make
// on their way up, with leaves and with whole registers that no thread has.
func TestWayUp(t *testing.T) {
	for _, q := range []struct {
		n, m, thread int
		counts       api.Counts
		set          []int // the addresses of the words that are 1
	}{
		{1, 1, 0, api.Counts{Write: 1}, []int{0}},
		{1, 8, 0, api.Counts{Write: 1}, []int{0}},
		{3, 2, 0, api.Counts{Read: 2 + 1 + 4 + 1, Write: 3}, []int{0, 3 + 1, 3 + 3 + 1}},
		{3, 2, 1, api.Counts{Read: 2 + 1 + 4 + 1, Write: 3}, []int{1, 3 + 1, 3 + 3 + 1}},
		{3, 2, 2, api.Counts{Read: 1 + 1 + 4 + 1, Write: 3}, []int{2, 3 + 1, 3 + 6 + 1}},
		{4, 3, 3, api.Counts{Read: 2 + 2 + 6 + 2, Write: 3}, []int{3, 4 + 3, 4 + 14 + 3}},
		{5, 3, 4, api.Counts{Read: 1 + 2 + 6 + 2 + 6 + 2, Write: 4}, []int{4, 5 + 3, 5 + 14 + 3, 5 + 35 + 3}},
		{6, 3, 5, api.Counts{Read: 2 + 2 + 6 + 2 + 6 + 2, Write: 4}, []int{5, 6 + 3, 6 + 14 + 3, 6 + 35 + 3}},
	} {
		steps := q.counts.Read + q.counts.Write
		picks := slices.Repeat([]int{q.thread}, steps)
		r := play(t, q.n, q.m, []api.Call{counting(q.thread)}, picks)
		words := make([]uint64, wordsOf(q.n, q.m))
		for _, at := range q.set {
			words[at] = 1
		}
		want := api.Report{
			Events: []api.Event{{Inv: 1, Resp: steps, Steps: steps, Key: []int{2 * steps}}},
			Words:  words,
			Counts: q.counts,
			Ticks:  steps,
		}
		if !trial.SameReport(r, want) {
			t.Errorf("%v: %v; want %v", q, r, want)
		}
		for _, x := range play(t, q.n, q.m, []api.Call{counting(q.thread)}, picks[:steps-1]).Events {
			if x.Resp != 0 || len(x.Key) != 0 {
				t.Errorf("%v, a step less: %v", q, x)
			}
		}
	}
}

// 11.2: counters of any size count up to what they can hold; each thread has
// its share, and none of the counts beyond it makes an access.
func TestFull(t *testing.T) {
	for n := 1; n <= api.MaxThreads; n++ {
		for m := 1; m <= 8; m++ {
			share := (1<<m - 1) / n
			var calls []api.Call
			for thread := range n {
				calls = append(calls, slices.Repeat([]api.Call{counting(thread)}, share+2)...)
			}
			calls = append(calls, reading(n-1))
			if len(calls) > api.MaxCalls {
				t.Fatal(n, m, len(calls))
			}
			var picks []int
			for thread := range n {
				// Two more picks than the first counts need at most: the full ones.
				picks = append(picks, slices.Repeat([]int{thread}, share*stepsOfCount(n, m)+2)...)
			}
			picks = append(picks, slices.Repeat([]int{n - 1}, m)...)
			checkFull(t, n, m, share, play(t, n, m, calls, picks))
		}
	}
}

// stepsOfCount is how many steps a count makes at most.
func stepsOfCount(n, m int) int {
	steps := 1
	for l := 1; l < leavesOf(n); l *= 2 {
		steps += 3 * m
	}
	return steps
}

// checkFull checks a play of which each thread counts twice too often.
func checkFull(t *testing.T, n, m, share int, r api.Report) {
	t.Helper()
	if len(r.Events) != n*(share+2)+1 {
		t.Fatalf("%d threads, %d bits: %d events", n, m, len(r.Events))
	}
	for i, x := range r.Events {
		want := api.Answer{}
		if i == len(r.Events)-1 {
			want.Val = uint64(n * share)
		} else if i%(share+2) >= share {
			want.Err = api.ErrFull
		}
		if x.Resp == 0 || !trial.SameAnswer(x.Answer, want) || want.Err != api.OK && x.Steps != 1 {
			t.Errorf("%d threads, %d bits: %v; want %v", n, m, x, want)
		}
	}
	made := r.Counts.Read + r.Counts.Write
	if r.Counts.Swap != 0 || r.Counts.Add != 0 || r.Counts.Fault != 0 || made != r.Ticks-2*n {
		t.Errorf("%d threads, %d bits: %v in %d ticks", n, m, r.Counts, r.Ticks)
	}
	for thread := range n {
		if r.Words[thread] != uint64(share) {
			t.Errorf("%d threads, %d bits: %v", n, m, r.Words[:n])
		}
	}
}

// 11.2: operations that respond with an error at once make no access.
func TestErrorsWithoutAccess(t *testing.T) {
	for _, q := range []struct {
		n, m int
		call api.Call
		want api.Errno
	}{
		{1, 1, api.Call{Kind: 2}, api.ErrKind},
		{2, 2, api.Call{Kind: -1}, api.ErrKind},
		{2, 1, api.Call{Kind: 2}, api.ErrKind},
		{2, 2, api.Call{Kind: math.MaxInt}, api.ErrKind},
		{2, 2, api.Call{Kind: math.MinInt}, api.ErrKind},
		{2, 1, api.Call{}, api.ErrFull},
		{4, 2, api.Call{}, api.ErrFull},
		{16, 4, api.Call{}, api.ErrFull},
		{2, 1, api.Call{Obj: 1}, api.ErrObj},
		{2, 2, api.Call{Obj: -1, Kind: 2}, api.ErrObj},
	} {
		want := api.Report{
			Events: []api.Event{{Inv: 1, Resp: 1, Steps: 1, Answer: api.Answer{Err: q.want}, Key: []int{2}}},
			Words:  make([]uint64, wordsOf(q.n, q.m)),
			Ticks:  1,
			Idle:   1,
		}
		if r := play(t, q.n, q.m, []api.Call{q.call}, []int{0, 0}); !trial.SameReport(r, want) {
			t.Errorf("%v: %v; want %v", q, r, want)
		}
	}
}

// 11.2: operations ignore what they have no use for, even where the registers
// and the words in the tree would not.
func TestIgnoredArguments(t *testing.T) {
	const top = math.MaxUint64
	for n := 1; n <= 2; n++ {
		calls := []api.Call{{Kind: 0, A: top, B: top, C: top}, {Kind: 1, A: top, B: top, C: top}}
		r := play(t, n, 2, calls, make([]int, 7))
		if len(r.Events) != 2 || !trial.SameAnswer(r.Events[0].Answer, api.Answer{}) || !trial.SameAnswer(r.Events[1].Answer, api.Answer{Val: 1}) {
			t.Errorf("%d threads: %v", n, r)
		}
	}
}

// 11.2: the key of a read is its response, whatever happened to the register
// at the top in between, and a read that has not responded has none.
func TestKeyOfRead(t *testing.T) {
	calls := []api.Call{reading(0), counting(1), counting(1)}
	picks := slices.Concat([]int{0, 0}, slices.Repeat([]int{1}, 12), []int{0})
	r := play(t, 2, 3, calls, picks)
	want := []api.Event{
		{Call: 0, Inv: 1, Resp: 15, Steps: 3, Answer: api.Answer{Val: 1}, Key: []int{30}},
		{Call: 1, Inv: 3, Resp: 8, Steps: 6, Key: []int{16}},
		{Call: 2, Inv: 9, Resp: 14, Steps: 6, Key: []int{28}},
	}
	if !trial.SameEvents(r.Events, want) {
		t.Errorf("%v; want %v", r.Events, want)
	}
	r = play(t, 2, 3, calls, picks[:14])
	if x := r.Events[0]; x.Resp != 0 || len(x.Key) != 0 {
		t.Error(x)
	}
}

// 11.1: the errors of a play, in their order, and no report with them (R7).
func TestPlayErrors(t *testing.T) {
	for i, q := range trial.WrongPlays() {
		for _, m := range []int{1, 0} {
			if r, e := count.Play(q.N, m, q.Calls, q.Picks); e != q.Want || !trial.SameReport(r, api.Report{}) {
				t.Errorf("%d, %d bits: %v, %v; want %v", i, m, r, e, q.Want)
			}
		}
	}
	for _, m := range []int{0, -1, 9, 12, 64, 65, math.MaxInt, math.MinInt} {
		for n := 1; n <= 2; n++ {
			if r, e := count.Play(n, m, []api.Call{counting(0)}, []int{0}); e != api.ErrRange || !trial.SameReport(r, api.Report{}) {
				t.Errorf("%d threads, %d bits: %v, %v", n, m, r, e)
			}
		}
	}
}

// 11.1: the words of counters of all sizes, without calls.
func TestWords(t *testing.T) {
	for n := 1; n <= api.MaxThreads; n++ {
		for m := 1; m <= 8; m++ {
			if r := play(t, n, m, nil, nil); !trial.SameReport(r, api.Report{Words: make([]uint64, wordsOf(n, m))}) {
				t.Errorf("%d threads, %d bits: %v", n, m, r)
			}
		}
	}
}

// 11.1: a play at the limits.
func TestPlayLimits(t *testing.T) {
	calls := slices.Repeat([]api.Call{counting(15)}, api.MaxCalls)
	calls[api.MaxCalls-1].Kind = 1
	r := play(t, 16, 8, calls, slices.Repeat([]int{15}, api.MaxPicks))
	if len(r.Events) != 1000 || len(r.Words) != 3841 || r.Ticks+r.Idle != api.MaxPicks {
		t.Fatal(len(r.Events), len(r.Words), r.Ticks, r.Idle)
	}
	if x := r.Events[999]; x.Answer.Val != 15 || x.Steps != 8 {
		t.Error(x)
	}
	if x := r.Events[15]; x.Answer.Err != api.ErrFull || r.Events[14].Answer.Err != api.OK {
		t.Error(x)
	}
}

// W6: the place of a counter in the memory changes no event, and its words
// alone; of two counters each one has its own counts, of all threads.
func TestElsewhere(t *testing.T) {
	calls := []api.Call{counting(0), counting(1), reading(1), counting(2), reading(0), counting(2)}
	picks := []int{0, 1, 2, 0, 1, 2, 2, 2, 0, 0, 1, 1, 2, 2, 0, 0, 1, 1, 0, 0, 1, 1, 0, 1, 2, 2, 2, 2, 0, 1, 0, 1, 0, 1, 2, 2, 2}
	near := play(t, 3, 3, calls, picks)
	away := slices.Clone(calls)
	for i := range away {
		away[i].Obj = 2
	}
	far, e := loom.Play(3, away, picks, count.New(2), loom.NewCells(1), count.New(3), count.New(3))
	if e != api.OK || len(far.Events) != len(near.Events) || !trial.SameEvents(near.Events, far.Events) || near.Counts != far.Counts {
		t.Fatalf("%v; %v; %v", e, near, far)
	}
	begin, size := wordsOf(3, 2)+1, wordsOf(3, 3)
	if !slices.Equal(near.Words, far.Words[begin:begin+size]) {
		t.Errorf("%v; %v", near.Words, far.Words)
	}
	for i, w := range far.Words {
		if w != 0 && (i < begin || i >= begin+size) {
			t.Errorf("%d: %v", i, far.Words)
		}
	}
	both := []api.Call{{}, {Obj: 1}, {}, {Obj: 1}, {}, {Kind: 1}, {Obj: 1, Kind: 1}}
	r, e := loom.Play(1, both, make([]int, 7+2), count.New(2), count.New(1))
	if e != api.OK || len(r.Events) != 7 || r.Events[3].Answer.Err != api.ErrFull || r.Events[5].Answer.Val != 3 || r.Events[6].Answer.Val != 1 {
		t.Error(e, r)
	}
}

// R5: an object that is played again begins as it began before.
func TestAgain(t *testing.T) {
	object := count.New(1)
	for range 2 {
		r, e := loom.Play(1, []api.Call{{}, {}, {Kind: 1}}, make([]int, 3), object)
		if e != api.OK || len(r.Events) != 3 || r.Events[0].Answer.Err != api.OK || r.Events[1].Answer.Err != api.ErrFull || r.Events[2].Answer.Val != 1 {
			t.Error(e, r)
		}
	}
}

// R4: the arguments stay what they are, and two reports share no memory.
func TestReportsAlone(t *testing.T) {
	calls := append(make([]api.Call, 0, 4), counting(0), reading(1))
	picks := append(make([]int, 0, 9), 0, 0, 0, 0, 0, 1, 1)
	before, picksBefore := slices.Clone(calls[:4]), slices.Clone(picks[:9])
	first, second := play(t, 2, 2, calls, picks), play(t, 2, 2, calls, picks)
	if !slices.Equal(calls[:4], before) || !slices.Equal(picks[:9], picksBefore) {
		t.Error("Play changed its arguments")
	}
	first.Words[0] = 99
	first.Events[0].Key[0] = 99
	first.Events[1] = api.Event{}
	if !trial.SameReport(second, play(t, 2, 2, calls, picks)) {
		t.Error("two reports share memory:", second)
	}
}
