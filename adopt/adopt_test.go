package adopt_test

import (
	"math"
	"slices"
	"testing"

	"roundelay/adopt"
	"roundelay/api"
	"roundelay/loom"
	"roundelay/trial"
)

const limit = 1 << 31

// play returns the play of an adopter, which must have no error.
func play(t *testing.T, n int, calls []api.Call, picks []int) api.Report {
	t.Helper()
	r, e := adopt.Play(n, calls, picks)
	if e != api.OK {
		t.Fatalf("Play(%d, %v, %v): %v", n, calls, picks, e)
	}
	return r
}

// proposal is a call that proposes a number.
func proposal(thread int, number uint64) api.Call {
	return api.Call{Thread: thread, A: number}
}

// proposals are calls by which each thread proposes its number.
func proposals(numbers ...uint64) []api.Call {
	var calls []api.Call
	for p, v := range numbers {
		calls = append(calls, proposal(p, v))
	}
	return calls
}

// inTurn makes picks of the given threads, each of them so many times.
func inTurn(times int, threads ...int) []int {
	var picks []int
	for _, p := range threads {
		picks = append(picks, slices.Repeat([]int{p}, times)...)
	}
	return picks
}

// vals returns the Vals of the calls in the order of these, which must all have responded.
func vals(t *testing.T, calls []api.Call, r api.Report) []uint64 {
	t.Helper()
	l := make([]uint64, len(calls))
	for _, x := range r.Events {
		l[x.Call] = x.Answer.Val
		if x.Resp == 0 || x.Answer.Err != api.OK || len(x.Answer.List) != 0 {
			t.Errorf("no answer: %v", x)
		}
	}
	if len(r.Events) != len(calls) {
		t.Errorf("%d events of %d calls", len(r.Events), len(calls))
	}
	return l
}

// 40.2: the example of the chapter.
func TestExample(t *testing.T) {
	want := api.Report{
		Events: []api.Event{
			{Call: 0, Inv: 1, Resp: 6, Steps: 6, Answer: api.Answer{Val: 9}, Key: []int{12}},
			{Call: 1, Inv: 7, Resp: 12, Steps: 6, Answer: api.Answer{Val: 8}, Key: []int{24}},
		},
		Words:  []uint64{5, 7, 11, 14},
		Counts: api.Counts{Read: 8, Write: 4},
		Ticks:  12,
	}
	if r := play(t, 2, proposals(4, 6), inTurn(6, 0, 1)); !trial.SameReport(r, want) {
		t.Errorf("%v; want %v", r, want)
	}
}

// 40.2, 40.6: the accesses of one thread alone, for each number of threads; it has no
// answer and no key before it responds.
func TestSteps(t *testing.T) {
	for n := 1; n <= api.MaxThreads; n++ {
		p := n / 2
		for i := range 2*n + 3 {
			want := api.Report{Words: make([]uint64, 2*n), Ticks: i}
			if i > 0 {
				want.Events = []api.Event{{Inv: 1, Steps: i}}
				want.Words[p] = 6
				want.Counts = api.Counts{Write: 1, Read: i - 1}
			}
			if i > n+1 {
				want.Words[n+p] = 13
				want.Counts = api.Counts{Write: 2, Read: i - 2}
			}
			if i == 2*n+2 {
				want.Events[0] = api.Event{Inv: 1, Resp: i, Steps: i, Answer: api.Answer{Val: 11}, Key: []int{2 * i}}
			}
			if r := play(t, n, []api.Call{proposal(p, 5)}, inTurn(i, p)); !trial.SameReport(r, want) {
				t.Errorf("%d threads, %d steps: %v; want %v", n, i, r, want)
			}
		}
	}
}

// 40.2: numbers and marks are read from those of thread 0 on: what a thread writes is
// found by another one exactly if it is written before it is read.
func TestReadsInOrder(t *testing.T) {
	for i, q := range []struct {
		numbers []uint64
		picks   []int
		vals    []uint64
		marks   []uint64
	}{
		// The first two find both numbers; no mark is odd.
		{[]uint64{4, 6}, []int{0, 1, 0, 1, 0, 1, 0, 1, 0, 1, 0, 1}, []uint64{8, 12}, []uint64{10, 14}},
		// 0 reads the number of 1 before this is written; 1 finds that of 0.
		{[]uint64{4, 6}, []int{0, 0, 0, 1, 1, 1, 1, 1, 1, 0, 0, 0}, []uint64{8, 12}, []uint64{11, 14}},
		// 1 reads the mark of 0 after this is written.
		{[]uint64{4, 6}, []int{0, 0, 0, 1, 1, 1, 1, 0, 1, 1, 0, 0}, []uint64{8, 8}, []uint64{11, 14}},
		// 1 reads the mark of 0 before this is written.
		{[]uint64{4, 6}, []int{0, 0, 0, 1, 1, 1, 1, 1, 0, 1, 0, 0}, []uint64{8, 12}, []uint64{11, 14}},
		// 0 reads the mark of 1 before this is written.
		{[]uint64{4, 6}, []int{0, 0, 0, 1, 1, 1, 0, 0, 0, 1, 1, 1}, []uint64{9, 8}, []uint64{11, 14}},
		// 1 reads the number of 0 before this is written, and 0 reads that of 1.
		{[]uint64{4, 6}, []int{1, 1, 0, 1, 1, 1, 1, 0, 0, 0, 0, 0}, []uint64{12, 13}, []uint64{10, 15}},
		// Both write before the other one reads.
		{[]uint64{4, 6}, []int{1, 0, 1, 1, 1, 1, 1, 0, 0, 0, 0, 0}, []uint64{8, 12}, []uint64{10, 14}},
	} {
		r := play(t, 2, proposals(q.numbers...), q.picks)
		if l := vals(t, proposals(q.numbers...), r); !slices.Equal(l, q.vals) {
			t.Errorf("%d: %v: %v", i, q, l)
		}
		if !slices.Equal(r.Words[2:], q.marks) {
			t.Errorf("%d: %v: %v", i, q, r.Words)
		}
	}
}

// 40.2, 40.5: if all propose the same number, they agree on it, in whatever order; the
// number 0 is one, too.
func TestSameNumber(t *testing.T) {
	for _, number := range []uint64{0, 1, 7, limit - 2, limit - 1} {
		for n := 1; n <= api.MaxThreads; n++ {
			calls := proposals(slices.Repeat([]uint64{number}, n)...)
			var together, apart []int
			for range 2*n + 2 {
				for p := range n {
					together = append(together, p)
				}
			}
			for p := range n {
				apart = append(apart, inTurn(2*n+2, p)...)
			}
			want := slices.Repeat([]uint64{2*number + 1}, n)
			words := append(slices.Repeat([]uint64{number + 1}, n), slices.Repeat([]uint64{2*number + 3}, n)...)
			for _, picks := range [][]int{together, apart} {
				r := play(t, n, calls, picks)
				if l := vals(t, calls, r); !slices.Equal(l, want) || !slices.Equal(r.Words, words) {
					t.Errorf("%d threads: %v; %v", n, l, r.Words)
				}
			}
		}
	}
}

// 40.2: one after the other, the first thread agrees, and the others adopt its number,
// unless it is their own one, too, and they come before a thread that has another one.
func TestOneAfterTheOther(t *testing.T) {
	calls := proposals(4, 6, 4, 0)
	for _, q := range []struct {
		order []int
		vals  []uint64
		marks []uint64
	}{
		{[]int{0, 1, 2, 3}, []uint64{9, 8, 8, 8}, []uint64{11, 14, 10, 2}},
		{[]int{0, 2, 1, 3}, []uint64{9, 8, 9, 8}, []uint64{11, 14, 11, 2}},
		{[]int{3, 2, 1, 0}, []uint64{0, 0, 0, 1}, []uint64{10, 14, 10, 3}},
		{[]int{1, 3, 0, 2}, []uint64{12, 13, 12, 12}, []uint64{10, 15, 10, 2}},
	} {
		r := play(t, 4, calls, inTurn(10, q.order...))
		if l := vals(t, calls, r); !slices.Equal(l, q.vals) || !slices.Equal(r.Words[4:], q.marks) {
			t.Errorf("%v: %v; %v", q, l, r.Words)
		}
	}
}

// 40.2: operations that respond with an error at once make no access; of several errors
// the first one counts.
func TestErrorsWithoutAccess(t *testing.T) {
	for _, q := range []struct {
		call api.Call
		want api.Errno
	}{
		{proposal(0, limit), api.ErrRange},
		{proposal(0, limit+1), api.ErrRange},
		{proposal(0, 1<<32), api.ErrRange},
		{proposal(0, 1<<63), api.ErrRange},
		{proposal(0, math.MaxUint64), api.ErrRange},
		{api.Call{Kind: 1}, api.ErrKind},
		{api.Call{Kind: 1, A: limit}, api.ErrKind},
		{api.Call{Kind: -1, A: limit}, api.ErrKind},
		{api.Call{Kind: math.MaxInt}, api.ErrKind},
		{api.Call{Kind: math.MinInt}, api.ErrKind},
		{api.Call{Obj: 1}, api.ErrObj},
		{api.Call{Obj: -1, Kind: 1, A: limit}, api.ErrObj},
	} {
		want := api.Report{
			Events: []api.Event{{Inv: 1, Resp: 1, Steps: 1, Answer: api.Answer{Err: q.want}, Key: []int{2}}},
			Words:  make([]uint64, 4),
			Ticks:  1,
			Idle:   1,
		}
		if r := play(t, 2, []api.Call{q.call}, []int{0, 0}); !trial.SameReport(r, want) {
			t.Errorf("%v: %v; want %v", q, r, want)
		}
	}
}

// 40.2: a thread proposes once; a call that is refused is no proposal, and what one
// thread has proposed is no matter of another one.
func TestProposesOnce(t *testing.T) {
	calls := []api.Call{
		proposal(0, limit), {Kind: 1, A: 3}, {Obj: 1}, proposal(0, limit-1),
		proposal(0, limit-1), proposal(0, 3), proposal(0, limit), {Kind: 2, A: limit}, proposal(1, 0), proposal(1, 0),
	}
	want := []struct {
		err   api.Errno
		val   uint64
		steps int
	}{
		{api.ErrRange, 0, 1}, {api.ErrKind, 0, 1}, {api.ErrObj, 0, 1}, {api.OK, 1<<32 - 1, 6},
		{api.ErrState, 0, 1}, {api.ErrState, 0, 1}, {api.ErrRange, 0, 1}, {api.ErrKind, 0, 1}, {api.OK, 1<<32 - 2, 6}, {api.ErrState, 0, 1},
	}
	r := play(t, 2, calls, append(inTurn(13, 0), inTurn(7, 1)...))
	if len(r.Events) != len(calls) || r.Counts != (api.Counts{Read: 8, Write: 4}) || r.Idle != 0 {
		t.Fatal(r)
	}
	for i, x := range r.Events {
		if x.Call != i || x.Steps != want[i].steps || !trial.SameAnswer(x.Answer, api.Answer{Err: want[i].err, Val: want[i].val}) {
			t.Errorf("%v; want %v", x, want[i])
		}
	}
	if !slices.Equal(r.Words, []uint64{limit, 1, 1<<32 + 1, 2}) {
		t.Error(r.Words)
	}
}

// 40.2: operations ignore what they have no use for.
func TestIgnoredArguments(t *testing.T) {
	const top = math.MaxUint64
	calls := []api.Call{{A: 3, B: top, C: top}}
	r := play(t, 1, calls, make([]int, 4))
	if l := vals(t, calls, r); !slices.Equal(l, []uint64{7}) || !slices.Equal(r.Words, []uint64{4, 9}) {
		t.Error(r)
	}
}

// written is an adopter whose words have been written before the play.
type written struct {
	loom.Object
	words []uint64
}

// Words returns what has been written.
func (w written) Words(int) []uint64 {
	return w.words
}

// 40.2: what the marks say, also where they are such as no play makes them: the first
// odd one counts, and those that are 0 do not.
func TestMarks(t *testing.T) {
	const most = 1<<32 + 1
	for _, q := range []struct {
		numbers []uint64 // of the threads 0 to 2, besides that of thread 3, which proposes 4
		marks   []uint64
		mark    uint64 // of thread 3
		val     uint64
	}{
		{[]uint64{0, 0, 0}, []uint64{0, 0, 0}, 11, 9},
		{[]uint64{5, 5, 5}, []uint64{0, 0, 0}, 11, 9},
		{[]uint64{5, 5, 5}, []uint64{11, 0, 11}, 11, 9},
		{[]uint64{5, 0, 0}, []uint64{10, 0, 0}, 11, 8},
		{[]uint64{0, 0, 7}, []uint64{0, 0, 0}, 10, 8},
		{[]uint64{1, 0, 0}, []uint64{0, 0, 0}, 10, 8},
		{[]uint64{0, 7, 0}, []uint64{0, 14, 0}, 10, 8},
		{[]uint64{0, 7, 0}, []uint64{0, 15, 0}, 10, 12},
		{[]uint64{0, 0, 0}, []uint64{0, 15, 0}, 11, 13},
		{[]uint64{0, 0, 0}, []uint64{0, 15, 9}, 11, 13},
		{[]uint64{0, 0, 0}, []uint64{0, 9, 15}, 11, 7},
		{[]uint64{0, 0, 0}, []uint64{2, 9, 15}, 11, 6},
		{[]uint64{0, 0, 0}, []uint64{9, 2, 15}, 11, 6},
		{[]uint64{0, 0, 0}, []uint64{9, 15, 2}, 11, 6},
		{[]uint64{0, 0, 0}, []uint64{3, 3, 3}, 11, 1},
		{[]uint64{limit, 0, 0}, []uint64{most, 0, 0}, 10, 1<<32 - 2},
		{[]uint64{0, 0, 0}, []uint64{0, 0, most}, 11, 1<<32 - 1},
	} {
		words := slices.Concat(q.numbers, []uint64{0}, q.marks, []uint64{0})
		calls := []api.Call{proposal(3, 4)}
		r, e := loom.Play(4, calls, inTurn(10, 3), written{adopt.New(), words})
		if e != api.OK {
			t.Fatal(e)
		}
		if l := vals(t, calls, r); !slices.Equal(l, []uint64{q.val}) {
			t.Errorf("%v: %v", q, l)
		}
		if want := slices.Concat(q.numbers, []uint64{5}, q.marks, []uint64{q.mark}); !slices.Equal(r.Words, want) {
			t.Errorf("%v: %v", q, r.Words)
		}
	}
}

// 40.1: the errors of a play, in their order, and no report with them (R7).
func TestPlayErrors(t *testing.T) {
	for i, q := range trial.WrongPlays() {
		if r, e := adopt.Play(q.N, q.Calls, q.Picks); e != q.Want || !trial.SameReport(r, api.Report{}) {
			t.Errorf("%d: %v, %v; want %v", i, r, e, q.Want)
		}
	}
}

// 40.1: plays at the limits, and without calls.
func TestPlayLimits(t *testing.T) {
	calls := slices.Repeat([]api.Call{proposal(15, 2)}, api.MaxCalls)
	r := play(t, 16, calls, slices.Repeat([]int{15}, api.MaxPicks))
	if len(r.Events) != 1000 || r.Ticks != 1033 || r.Idle != api.MaxPicks-1033 || r.Counts != (api.Counts{Read: 32, Write: 2}) {
		t.Error(len(r.Events), r.Ticks, r.Idle, r.Counts)
	}
	for n := 1; n <= api.MaxThreads; n++ {
		if r := play(t, n, nil, nil); !trial.SameReport(r, api.Report{Words: make([]uint64, 2*n)}) {
			t.Errorf("%d threads: %v", n, r)
		}
	}
}

// W6: the place of an adopter in the memory changes no event, and its words alone; of
// two adopters each one has its own proposals.
func TestElsewhere(t *testing.T) {
	calls := []api.Call{proposal(0, 4), proposal(1, 6), proposal(0, 4)}
	picks := []int{0, 0, 1, 0, 1, 0, 0, 0, 0, 1, 1, 1, 1}
	near := play(t, 2, calls, picks)
	away := slices.Clone(calls)
	for i := range away {
		away[i].Obj = 2
	}
	far, e := loom.Play(2, away, picks, adopt.New(), loom.NewCells(1), adopt.New(), adopt.New())
	if e != api.OK || len(far.Events) != 3 || !trial.SameEvents(near.Events, far.Events) || near.Counts != far.Counts {
		t.Errorf("%v; %v; %v", e, near, far)
	}
	want := slices.Concat(make([]uint64, 5), near.Words, make([]uint64, 4))
	if !slices.Equal(near.Words, []uint64{5, 7, 10, 14}) || !slices.Equal(far.Words, want) {
		t.Errorf("%v; %v", near.Words, far.Words)
	}
	both := []api.Call{{A: 1}, {Obj: 1, A: 2}, {A: 1}, {Obj: 1, A: 2}}
	r, e := loom.Play(1, both, make([]int, 10), adopt.New(), adopt.New())
	if e != api.OK || len(r.Events) != 4 || r.Events[1].Answer.Val != 5 || r.Events[2].Answer.Err != api.ErrState || r.Events[3].Answer.Err != api.ErrState {
		t.Error(r, e)
	}
}

// R5: an adopter that is played again begins as it began before.
func TestAgain(t *testing.T) {
	a := adopt.New()
	first, _ := loom.Play(2, proposals(4, 6), inTurn(6, 0, 1), a)
	second, _ := loom.Play(2, proposals(4, 6), inTurn(6, 0, 1), a)
	if len(first.Events) != 2 || first.Events[1].Answer.Val != 8 || !trial.SameReport(first, second) {
		t.Errorf("%v; %v", first, second)
	}
}

// R4: the arguments stay what they are, and two reports share no memory.
func TestReportsAlone(t *testing.T) {
	calls := append(make([]api.Call, 0, 4), proposals(4, 6)...)
	picks := append(make([]int, 0, 9), 0, 0, 0, 0, 0, 0, 1)
	before, picksBefore := slices.Clone(calls[:4]), slices.Clone(picks[:9])
	first, second := play(t, 2, calls, picks), play(t, 2, calls, picks)
	if !slices.Equal(calls[:4], before) || !slices.Equal(picks[:9], picksBefore) {
		t.Error("Play changed its arguments")
	}
	first.Words[0] = 99
	first.Events[0].Key[0] = 99
	first.Events[1] = api.Event{}
	if !trial.SameReport(second, play(t, 2, calls, picks)) {
		t.Error("two reports share memory:", second)
	}
}
