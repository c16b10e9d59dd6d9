package pool_test

import (
	"math"
	"slices"
	"testing"

	"roundelay/api"
	"roundelay/loom"
	"roundelay/pool"
	"roundelay/trial"
)

// play returns the play of a pool, which must have no error.
func play(t *testing.T, n, k int, calls []api.Call, picks []int) api.Report {
	t.Helper()
	r, e := pool.Play(n, k, calls, picks)
	if e != api.OK {
		t.Fatalf("Play(%d, %d, %v, %v): %v", n, k, calls, picks, e)
	}
	return r
}

// allocating is a call that allocates a place.
func allocating(thread int) api.Call {
	return api.Call{Thread: thread, Kind: 0}
}

// releasing is a call that releases a place with a version.
func releasing(thread int, place, version uint64) api.Call {
	return api.Call{Thread: thread, Kind: 1, A: ref(place, version)}
}

// ref is the reference to a place with a version.
func ref(place, version uint64) uint64 {
	return place + 1024*version
}

// checkAnswers checks the answers of a play, and how many steps they took.
func checkAnswers(t *testing.T, r api.Report, want []answer) {
	t.Helper()
	if len(r.Events) != len(want) {
		t.Fatalf("%d events; want %d", len(r.Events), len(want))
	}
	for i, x := range r.Events {
		w := want[i]
		if x.Call != i || x.Steps != w.steps || !trial.SameAnswer(x.Answer, api.Answer{Err: w.err, Val: w.val}) || !slices.Equal(x.Key, []int{2 * x.Resp}) {
			t.Errorf("%v; want %v", x, w)
		}
	}
}

// answer is what an operation responds with, and in how many steps.
type answer struct {
	steps int
	err   api.Errno
	val   uint64
}

// 13.2: the example of the chapter.
func TestExample(t *testing.T) {
	calls := []api.Call{allocating(0), allocating(0), releasing(0, 2, 1), allocating(0)}
	want := api.Report{
		Events: []api.Event{
			{Call: 0, Inv: 1, Resp: 2, Steps: 2, Answer: api.Answer{Val: 2 + 1024}, Key: []int{4}},
			{Call: 1, Inv: 3, Resp: 3, Steps: 1, Answer: api.Answer{Err: api.ErrFull}, Key: []int{6}},
			{Call: 2, Inv: 4, Resp: 4, Steps: 1, Key: []int{8}},
			{Call: 3, Inv: 5, Resp: 6, Steps: 2, Answer: api.Answer{Val: 2 + 2048}, Key: []int{12}},
		},
		Words:  []uint64{5},
		Counts: api.Counts{Read: 3, Write: 2, Swap: 1},
		Ticks:  6,
	}
	if r := play(t, 1, 1, calls, make([]int, 6)); !trial.SameReport(r, want) {
		t.Errorf("%v; want %v", r, want)
	}
}

// 13.2: of the places that are not allocated, the one with the smallest number
// is allocated, whichever was released last; each one has versions of its own.
func TestSmallestFirst(t *testing.T) {
	calls := []api.Call{
		allocating(0), allocating(0), allocating(0), allocating(0),
		releasing(0, 4, 1), releasing(0, 3, 1), allocating(0), allocating(0),
		releasing(0, 3, 2), allocating(0), releasing(0, 2, 1), allocating(0), allocating(0),
	}
	r := play(t, 1, 3, calls, make([]int, 40))
	checkAnswers(t, r, []answer{
		{2, api.OK, ref(2, 1)}, {3, api.OK, ref(3, 1)}, {4, api.OK, ref(4, 1)}, {3, api.ErrFull, 0},
		{1, api.OK, 0}, {1, api.OK, 0}, {3, api.OK, ref(3, 2)}, {4, api.OK, ref(4, 2)},
		{1, api.OK, 0}, {3, api.OK, ref(3, 3)}, {1, api.OK, 0}, {2, api.OK, ref(2, 2)}, {3, api.ErrFull, 0},
	})
	if !slices.Equal(r.Words, []uint64{5, 7, 5}) {
		t.Error(r.Words)
	}
}

// 13.1, 13.2: each thread has places of its own, as many as each other one.
func TestPlacesOfThreads(t *testing.T) {
	for n := 1; n <= api.MaxThreads; n++ {
		for _, k := range []int{1, 2, 3, 31, 32} {
			var calls []api.Call
			var picks []int
			var want []answer
			for p := range n {
				for i := range k {
					calls = append(calls, allocating(p))
					picks = append(picks, slices.Repeat([]int{p}, i+2)...)
					want = append(want, answer{i + 2, api.OK, ref(uint64(2+p*k+i), 1)})
				}
				calls = append(calls, allocating(p))
				picks = append(picks, slices.Repeat([]int{p}, k)...)
				want = append(want, answer{k, api.ErrFull, 0})
			}
			r := play(t, n, k, calls, picks)
			checkAnswers(t, r, want)
			if !slices.Equal(r.Words, slices.Repeat([]uint64{3}, n*k)) || r.Counts.Write != n*k || r.Counts.Swap != 0 {
				t.Errorf("%d threads, %d places: %v", n, k, r)
			}
		}
	}
}

// 13.2: an allocation step by step; it has no key before it responds, and
// allocates nothing before its W.
func TestSteps(t *testing.T) {
	calls := []api.Call{allocating(1), allocating(1), allocating(1)}
	picks := slices.Repeat([]int{1}, 7)
	for i, want := range []struct {
		words  []uint64
		events []api.Event
	}{
		{[]uint64{0, 0, 0, 0}, nil},
		{[]uint64{0, 0, 0, 0}, []api.Event{{Inv: 1, Steps: 1}}},
		{[]uint64{0, 0, 3, 0}, []api.Event{{Inv: 1, Resp: 2, Steps: 2, Answer: api.Answer{Val: ref(4, 1)}, Key: []int{4}}}},
		{[]uint64{0, 0, 3, 0}, []api.Event{{Call: 1, Inv: 3, Steps: 1}}},
		{[]uint64{0, 0, 3, 0}, []api.Event{{Call: 1, Inv: 3, Steps: 2}}},
		{[]uint64{0, 0, 3, 3}, []api.Event{{Call: 1, Inv: 3, Resp: 5, Steps: 3, Answer: api.Answer{Val: ref(5, 1)}, Key: []int{10}}}},
		{[]uint64{0, 0, 3, 3}, []api.Event{{Call: 2, Inv: 6, Steps: 1}}},
		{[]uint64{0, 0, 3, 3}, []api.Event{{Call: 2, Inv: 6, Resp: 7, Steps: 2, Answer: api.Answer{Err: api.ErrFull}, Key: []int{14}}}},
	} {
		r := play(t, 2, 2, calls, picks[:i])
		last := r.Events[max(0, len(r.Events)-1):]
		if !slices.Equal(r.Words, want.words) || !trial.SameEvents(last, want.events) || r.Counts.Read+r.Counts.Write != i {
			t.Errorf("after %d steps: %v; want %v", i, r, want)
		}
	}
}

// 13.2: any thread releases, but only what is allocated with this version.
func TestReleases(t *testing.T) {
	calls := []api.Call{
		releasing(1, 2, 0), releasing(1, 2, 1), allocating(0),
		releasing(1, 2, 0), releasing(1, 2, 2), releasing(1, 3, 1), releasing(1, 2, 1<<40-1),
		releasing(1, 2, 1), releasing(0, 2, 1), releasing(0, 2, 2), allocating(0),
		releasing(1, 2, 1), releasing(0, 2, 2), releasing(1, 2, 2), releasing(1, 3, 0),
	}
	var picks []int
	for _, c := range calls {
		picks = append(picks, c.Thread)
		if c.Kind == 0 {
			picks = append(picks, c.Thread)
		}
	}
	r := play(t, 2, 1, calls, picks)
	checkAnswers(t, r, []answer{
		{1, api.ErrState, 0}, {1, api.ErrState, 0}, {2, api.OK, ref(2, 1)},
		{1, api.ErrState, 0}, {1, api.ErrState, 0}, {1, api.ErrState, 0}, {1, api.ErrState, 0},
		{1, api.OK, 0}, {1, api.ErrState, 0}, {1, api.ErrState, 0}, {2, api.OK, ref(2, 2)},
		{1, api.ErrState, 0}, {1, api.OK, 0}, {1, api.ErrState, 0}, {1, api.ErrState, 0},
	})
	if !slices.Equal(r.Words, []uint64{4, 0}) || r.Counts != (api.Counts{Read: 2, Write: 2, Swap: 13}) {
		t.Error(r)
	}
}

// 13.2: an allocation that has passed a place does not come back to it, even
// if it is released before the allocation fails (13.4: it was allocated when the
// operation was invoked).
func TestReleasedBehind(t *testing.T) {
	calls := []api.Call{allocating(0), allocating(0), allocating(0), releasing(1, 2, 1), releasing(1, 3, 1)}
	for _, q := range []struct {
		picks []int
		want  api.Answer
	}{
		{[]int{0, 1, 0, 0}, api.Answer{Err: api.ErrFull}},
		{[]int{1, 0, 0, 0}, api.Answer{Val: ref(2, 2)}},
		{[]int{0, 1, 1, 0, 0}, api.Answer{Val: ref(3, 2)}},
		{[]int{0, 0, 1, 1, 0}, api.Answer{Err: api.ErrFull}},
	} {
		r := play(t, 2, 2, calls, append([]int{0, 0, 0, 0, 0}, q.picks...))
		i := slices.IndexFunc(r.Events, func(x api.Event) bool { return x.Call == 2 })
		if x := r.Events[i]; !trial.SameAnswer(x.Answer, q.want) {
			t.Errorf("%v: %v; want %v", q.picks, x, q.want)
		}
	}
}

// 13.2: operations that respond with an error at once make no access.
func TestErrorsWithoutAccess(t *testing.T) {
	for _, q := range []struct {
		n, k int
		call api.Call
		want api.Errno
	}{
		{2, 2, releasing(0, 0, 1), api.ErrRange},
		{2, 2, releasing(0, 1, 1), api.ErrRange},
		{2, 2, releasing(0, 6, 1), api.ErrRange},
		{2, 2, releasing(0, 1023, 1), api.ErrRange},
		{1, 1, releasing(0, 3, 1), api.ErrRange},
		{16, 32, releasing(0, 514, 1), api.ErrRange},
		{16, 32, releasing(0, 1, 0), api.ErrRange},
		{2, 2, releasing(0, 2, 1<<40), api.ErrRange},
		{2, 2, releasing(0, 5, 1<<54-1), api.ErrRange},
		{2, 2, api.Call{Kind: 1, A: 1 << 63}, api.ErrRange},
		{2, 2, api.Call{Kind: 1, A: math.MaxUint64}, api.ErrRange},
		{2, 2, api.Call{Kind: 1}, api.ErrRange},
		{2, 2, api.Call{Kind: 2}, api.ErrKind},
		{2, 2, api.Call{Kind: 2, A: 1 << 63}, api.ErrKind},
		{2, 2, api.Call{Kind: -1}, api.ErrKind},
		{2, 2, api.Call{Kind: math.MaxInt}, api.ErrKind},
		{2, 2, api.Call{Kind: math.MinInt}, api.ErrKind},
		{2, 2, api.Call{Obj: 1}, api.ErrObj},
		{2, 2, api.Call{Obj: -1, Kind: 3}, api.ErrObj},
	} {
		want := api.Report{
			Events: []api.Event{{Inv: 1, Resp: 1, Steps: 1, Answer: api.Answer{Err: q.want}, Key: []int{2}}},
			Words:  make([]uint64, q.n*q.k),
			Ticks:  1,
			Idle:   1,
		}
		if r := play(t, q.n, q.k, []api.Call{q.call}, []int{0, 0}); !trial.SameReport(r, want) {
			t.Errorf("%v: %v; want %v", q, r, want)
		}
	}
}

// 13.2: the first and the last place, and the greatest version, can be named.
func TestExtremeReferences(t *testing.T) {
	for _, q := range []struct {
		n, k int
		call api.Call
	}{
		{1, 1, releasing(0, 2, 0)},
		{2, 2, releasing(0, 5, 1<<40-1)},
		{16, 32, releasing(0, 2, 1<<40-1)},
		{16, 32, releasing(0, 513, 0)},
	} {
		r := play(t, q.n, q.k, []api.Call{q.call}, []int{0})
		if len(r.Events) != 1 || r.Events[0].Answer.Err != api.ErrState || r.Counts != (api.Counts{Swap: 1}) {
			t.Errorf("%v: %v", q, r)
		}
	}
}

// 13.2: operations ignore what they have no use for.
func TestIgnoredArguments(t *testing.T) {
	const top = math.MaxUint64
	calls := []api.Call{{Kind: 0, A: top, B: top, C: top}, {Kind: 1, A: ref(2, 1), B: top, C: top}}
	checkAnswers(t, play(t, 1, 1, calls, []int{0, 0, 0}), []answer{{2, api.OK, ref(2, 1)}, {1, api.OK, 0}})
}

// 13.1: the errors of a play, in their order, and no report with them (R7).
func TestPlayErrors(t *testing.T) {
	for i, q := range trial.WrongPlays() {
		for _, k := range []int{1, 0} {
			if r, e := pool.Play(q.N, k, q.Calls, q.Picks); e != q.Want || !trial.SameReport(r, api.Report{}) {
				t.Errorf("%d, %d places: %v, %v; want %v", i, k, r, e, q.Want)
			}
		}
	}
	for _, k := range []int{0, -1, 33, 1 << 60, math.MaxInt, math.MinInt} {
		if r, e := pool.Play(2, k, []api.Call{allocating(0)}, []int{0}); e != api.ErrRange || !trial.SameReport(r, api.Report{}) {
			t.Errorf("%d places: %v, %v", k, r, e)
		}
	}
}

// 13.1: a play at the limits, and plays without calls.
func TestPlayLimits(t *testing.T) {
	calls := slices.Repeat([]api.Call{allocating(15)}, api.MaxCalls)
	r := play(t, 16, 32, calls, slices.Repeat([]int{15}, api.MaxPicks))
	ticks := 32*33/2 + 32 + (1000-32)*32
	if len(r.Events) != 1000 || r.Ticks != ticks || r.Idle != api.MaxPicks-ticks {
		t.Fatal(len(r.Events), r.Ticks, r.Idle)
	}
	if x := r.Events[31]; x.Answer.Val != ref(513, 1) || r.Words[511] != 3 {
		t.Error(x)
	}
	if x := r.Events[999]; x.Answer.Err != api.ErrFull || x.Steps != 32 {
		t.Error(x)
	}
	for n := 1; n <= api.MaxThreads; n++ {
		for k := 1; k <= 32; k++ {
			if r := play(t, n, k, nil, nil); !trial.SameReport(r, api.Report{Words: make([]uint64, n*k)}) {
				t.Errorf("%d threads, %d places: %v", n, k, r)
			}
		}
	}
}

// W6: the place of a pool in the memory changes no event, and its words alone;
// of two pools each one has its own places.
func TestElsewhere(t *testing.T) {
	calls := []api.Call{allocating(0), allocating(1), allocating(1), releasing(0, 4, 1), allocating(1), allocating(1), releasing(1, 2, 7)}
	picks := []int{0, 1, 0, 1, 1, 0, 1, 1, 1, 1, 1, 1, 1, 1, 1}
	near := play(t, 2, 2, calls, picks)
	away := slices.Clone(calls)
	for i := range away {
		away[i].Obj = 2
	}
	far, e := loom.Play(2, away, picks, pool.New(1), loom.NewCells(1), pool.New(2), pool.New(2))
	if e != api.OK || len(far.Events) != 7 || !trial.SameEvents(near.Events, far.Events) || near.Counts != far.Counts {
		t.Fatalf("%v; %v; %v", e, near, far)
	}
	if !slices.Equal(near.Words, []uint64{3, 0, 5, 3}) || !slices.Equal(far.Words, []uint64{0, 0, 0, 3, 0, 5, 3, 0, 0, 0, 0}) {
		t.Errorf("%v; %v", near.Words, far.Words)
	}
}

// R4: the arguments stay what they are, and two reports share no memory.
func TestReportsAlone(t *testing.T) {
	calls := append(make([]api.Call, 0, 4), allocating(0), releasing(1, 2, 1))
	picks := append(make([]int, 0, 9), 0, 0, 1)
	before, picksBefore := slices.Clone(calls[:4]), slices.Clone(picks[:9])
	first, second := play(t, 2, 1, calls, picks), play(t, 2, 1, calls, picks)
	if !slices.Equal(calls[:4], before) || !slices.Equal(picks[:9], picksBefore) {
		t.Error("Play changed its arguments")
	}
	first.Words[0] = 99
	first.Events[0].Key[0] = 99
	first.Events[1] = api.Event{}
	if !trial.SameReport(second, play(t, 2, 1, calls, picks)) {
		t.Error("two reports share memory:", second)
	}
}
