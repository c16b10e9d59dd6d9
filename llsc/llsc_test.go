package llsc_test

import (
	"math"
	"slices"
	"testing"

	"roundelay/api"
	"roundelay/llsc"
	"roundelay/loom"
	"roundelay/trial"
)

// play returns the play of linked words, which must have no error.
func play(t *testing.T, n, size int, calls []api.Call, picks []int) api.Report {
	t.Helper()
	r, e := llsc.Play(n, size, calls, picks)
	if e != api.OK {
		t.Fatalf("Play(%d, %d, %v, %v): %v", n, size, calls, picks, e)
	}
	return r
}

// load is a call that reads a place.
func load(thread int, place uint64) api.Call {
	return api.Call{Thread: thread, Kind: 0, A: place}
}

// store is a call that writes a value to a place.
func store(thread int, place, value uint64) api.Call {
	return api.Call{Thread: thread, Kind: 1, A: place, B: value}
}

// check is a call that asks whether a place is as it was read.
func check(thread int, place uint64) api.Call {
	return api.Call{Thread: thread, Kind: 2, A: place}
}

// word is what is at a place with a value, after so many writes.
func word(value, writes uint64) uint64 {
	return value + writes<<32
}

// answer is what an operation responds with.
type answer struct {
	err api.Errno
	val uint64
}

// yes, no and unlinked are answers of writes and of checks.
var (
	yes      = answer{val: 1}
	no       = answer{}
	unlinked = answer{err: api.ErrState}
)

// step is a call that is executed when its turn comes, and its answer.
type step struct {
	call api.Call
	want answer
}

// playSteps plays calls in their order, checks the answers, and returns the report.
func playSteps(t *testing.T, n, size int, l ...step) api.Report {
	t.Helper()
	var calls []api.Call
	var picks []int
	for _, s := range l {
		calls = append(calls, s.call)
		picks = append(picks, s.call.Thread)
	}
	r := play(t, n, size, calls, picks)
	var want []api.Event
	for i, s := range l {
		want = append(want, api.Event{
			Call: i, Inv: i + 1, Resp: i + 1, Steps: 1,
			Answer: api.Answer{Err: s.want.err, Val: s.want.val},
			Key:    []int{2 * (i + 1)},
		})
	}
	if !trial.SameEvents(r.Events, want) || r.Ticks != len(l) || r.Idle != 0 {
		t.Errorf("%v; want %v", r, want)
	}
	return r
}

// checkMemory checks the words of a report, and its accesses.
func checkMemory(t *testing.T, r api.Report, words []uint64, counts api.Counts) {
	t.Helper()
	if !slices.Equal(r.Words, words) || r.Counts != counts {
		t.Errorf("%v, %v; want %v, %v", r.Words, r.Counts, words, counts)
	}
}

// 38.2: the example of the chapter: the value is 0 again, but it was written.
func TestExample(t *testing.T) {
	r := playSteps(t, 2, 1,
		step{load(0, 0), answer{}},
		step{load(1, 0), answer{}},
		step{store(1, 0, 5), yes},
		step{load(1, 0), answer{val: 5}},
		step{store(1, 0, 0), yes},
		step{check(0, 0), no},
		step{store(0, 0, 7), no},
	)
	checkMemory(t, r, []uint64{word(0, 2)}, api.Counts{Read: 4, Swap: 3})
}

// 38.2: a write that succeeds counts, whether the value changes or not; the value is
// only what is in the lower bits.
func TestWrites(t *testing.T) {
	const greatest = 1<<32 - 1
	r := playSteps(t, 1, 2,
		step{load(0, 1), answer{}},
		step{store(0, 1, greatest), yes},
		step{load(0, 1), answer{val: greatest}},
		step{check(0, 1), yes},
		step{store(0, 1, greatest), yes},
		step{load(0, 1), answer{val: greatest}},
		step{store(0, 1, 0), yes},
		step{load(0, 1), answer{}},
		step{load(0, 0), answer{}},
		step{store(0, 0, 9), yes},
	)
	checkMemory(t, r, []uint64{word(9, 1), word(0, 3)}, api.Counts{Read: 6, Swap: 4})
}

// 38.2: a write removes the link, whether it succeeds or not; a check does not, and
// neither do operations that are refused.
func TestLinkRemoved(t *testing.T) {
	playSteps(t, 2, 1,
		step{store(0, 0, 1), unlinked},
		step{check(0, 0), unlinked},
		step{load(0, 0), answer{}},
		step{check(0, 0), yes},
		step{check(0, 0), yes},
		step{store(0, 0, 1<<32), answer{err: api.ErrRange}},
		step{store(0, 1, 1), answer{err: api.ErrRange}},
		step{api.Call{Kind: 3}, answer{err: api.ErrKind}},
		step{check(0, 0), yes},
		step{store(0, 0, 2), yes},
		step{store(0, 0, 3), unlinked},
		step{check(0, 0), unlinked},
		step{load(0, 0), answer{val: 2}},
		step{load(1, 0), answer{val: 2}},
		step{store(1, 0, 4), yes},
		step{check(0, 0), no},
		step{check(0, 0), no},
		step{store(0, 0, 5), no},
		step{check(0, 0), unlinked},
		step{store(0, 0, 6), unlinked},
		step{load(0, 0), answer{val: 4}},
		step{store(0, 0, 7), yes},
	)
}

// 38.2: a later read replaces the link, so that a write succeeds again.
func TestLinkReplaced(t *testing.T) {
	playSteps(t, 2, 1,
		step{load(0, 0), answer{}},
		step{load(1, 0), answer{}},
		step{store(1, 0, 5), yes},
		step{check(0, 0), no},
		step{load(0, 0), answer{val: 5}},
		step{check(0, 0), yes},
		step{store(0, 0, 6), yes},
	)
}

// 38.2: each thread has a link of its own for each place.
func TestLinksApart(t *testing.T) {
	r := playSteps(t, 3, 3,
		step{load(0, 0), answer{}},
		step{load(0, 1), answer{}},
		step{load(1, 1), answer{}},
		step{check(0, 2), unlinked},
		step{check(1, 0), unlinked},
		step{store(2, 1, 3), unlinked},
		step{store(1, 1, 4), yes},
		step{check(0, 0), yes},
		step{check(0, 1), no},
		step{check(1, 1), unlinked},
		step{store(0, 0, 5), yes},
		step{check(0, 1), no},
		step{check(0, 0), unlinked},
		step{load(2, 2), answer{}},
		step{store(2, 2, 6), yes},
	)
	checkMemory(t, r, []uint64{word(5, 1), word(4, 1), word(6, 1)}, api.Counts{Read: 7, Swap: 3})
}

// 38.2: operations that respond with an error make no access; of several errors the
// first one counts.
func TestErrorsWithoutAccess(t *testing.T) {
	const top = math.MaxUint64
	for _, q := range []struct {
		size int
		call api.Call
		want api.Errno
	}{
		{1, api.Call{Kind: 3}, api.ErrKind},
		{1, api.Call{Kind: 3, A: 9, B: top}, api.ErrKind},
		{1, api.Call{Kind: -1}, api.ErrKind},
		{1, api.Call{Kind: -1, A: 1}, api.ErrKind},
		{1, api.Call{Kind: math.MaxInt}, api.ErrKind},
		{1, api.Call{Kind: math.MinInt, A: top}, api.ErrKind},
		{1, load(0, 1), api.ErrRange},
		{64, load(0, 64), api.ErrRange},
		{64, load(0, 1<<32), api.ErrRange},
		{64, load(0, 1<<63), api.ErrRange},
		{64, load(0, top), api.ErrRange},
		{1, store(0, 1, 0), api.ErrRange},
		{1, store(0, top, top), api.ErrRange},
		{1, store(0, 0, 1<<32), api.ErrRange},
		{1, store(0, 0, 1<<63), api.ErrRange},
		{1, store(0, 0, top), api.ErrRange},
		{63, check(0, 63), api.ErrRange},
		{63, check(0, top), api.ErrRange},
		{1, store(0, 0, 0), api.ErrState},
		{1, store(0, 0, 1<<32-1), api.ErrState},
		{64, store(0, 63, 1), api.ErrState},
		{1, check(0, 0), api.ErrState},
		{64, check(0, 63), api.ErrState},
		{1, api.Call{Kind: 2, B: top, C: top}, api.ErrState},
		{1, api.Call{Obj: 1}, api.ErrObj},
		{1, api.Call{Obj: -1, Kind: 3}, api.ErrObj},
	} {
		want := api.Report{
			Events: []api.Event{{Inv: 1, Resp: 1, Steps: 1, Answer: api.Answer{Err: q.want}, Key: []int{2}}},
			Words:  make([]uint64, q.size),
			Ticks:  1,
			Idle:   1,
		}
		if r := play(t, 2, q.size, []api.Call{q.call}, []int{0, 0}); !trial.SameReport(r, want) {
			t.Errorf("%v: %v; want %v", q, r, want)
		}
	}
}

// 38.2: operations ignore what they have no use for.
func TestIgnoredArguments(t *testing.T) {
	const top = math.MaxUint64
	playSteps(t, 1, 1,
		step{api.Call{Kind: 0, B: top, C: top}, answer{}},
		step{api.Call{Kind: 2, B: top, C: top}, yes},
		step{api.Call{Kind: 1, B: 3, C: top}, yes},
	)
}

// 38.1: the errors of a play, in their order, and no report with them (R7).
func TestPlayErrors(t *testing.T) {
	for i, q := range trial.WrongPlays() {
		for _, size := range []int{1, 0} {
			if r, e := llsc.Play(q.N, size, q.Calls, q.Picks); e != q.Want || !trial.SameReport(r, api.Report{}) {
				t.Errorf("%d, %d words: %v, %v; want %v", i, size, r, e, q.Want)
			}
		}
	}
	for _, size := range []int{0, -1, 65, 1 << 60, math.MaxInt, math.MinInt} {
		if r, e := llsc.Play(2, size, []api.Call{load(0, 0)}, []int{0}); e != api.ErrRange || !trial.SameReport(r, api.Report{}) {
			t.Errorf("%d words: %v, %v", size, r, e)
		}
	}
}

// 38.1: plays of all sizes, whose first word is at the address 0, and whose last one
// is written; a play of as many calls and picks as there can be.
func TestPlayLimits(t *testing.T) {
	for size := 1; size <= 64; size++ {
		last := uint64(size - 1)
		r := playSteps(t, 16, size, step{load(15, last), answer{}}, step{store(15, last, 8), yes})
		want := make([]uint64, size)
		want[last] = word(8, 1)
		checkMemory(t, r, want, api.Counts{Read: 1, Swap: 1})
	}
	var calls []api.Call
	for i := range api.MaxCalls / 2 {
		calls = append(calls, load(15, 63), store(15, 63, uint64(i)))
	}
	r := play(t, 16, 64, calls, slices.Repeat([]int{15}, api.MaxPicks))
	if len(r.Events) != api.MaxCalls || r.Idle != api.MaxPicks-api.MaxCalls || r.Words[63] != word(499, 500) {
		t.Error(len(r.Events), r.Idle, r.Words)
	}
	if r := play(t, 1, 3, nil, nil); !trial.SameReport(r, api.Report{Words: make([]uint64, 3)}) {
		t.Error(r)
	}
}

// W6: the place of linked words in the memory changes no event, and their words
// alone; links to one object are none to another one.
func TestElsewhere(t *testing.T) {
	calls := []api.Call{load(0, 1), load(1, 1), store(1, 1, 5), check(0, 1), store(0, 1, 6), load(0, 0), store(0, 0, 7), check(1, 1)}
	picks := []int{0, 1, 1, 0, 0, 0, 0, 1}
	near := play(t, 2, 2, calls, picks)
	away := slices.Clone(calls)
	for i := range away {
		away[i].Obj = 2
	}
	away = append(away, api.Call{Obj: 3, Kind: 2}, load(0, 0))
	away[9].Obj = 3
	far, e := loom.Play(2, away, append(slices.Clone(picks), 0, 0), llsc.New(1), loom.NewCells(1), llsc.New(2), llsc.New(1))
	if e != api.OK || len(far.Events) != 10 || !trial.SameEvents(near.Events, far.Events[:8]) {
		t.Fatalf("%v; %v; %v", e, near, far)
	}
	if far.Events[8].Answer.Err != api.ErrState || far.Events[9].Answer.Err != api.OK {
		t.Error(far.Events[8:])
	}
	if !slices.Equal(near.Words, []uint64{word(7, 1), word(5, 1)}) || !slices.Equal(far.Words, []uint64{0, 0, word(7, 1), word(5, 1), 0}) {
		t.Errorf("%v; %v", near.Words, far.Words)
	}
}

// written is linked words that have been written before the play.
type written struct {
	loom.Object
	words []uint64
}

// Words returns what has been written.
func (w written) Words(int) []uint64 {
	return w.words
}

// 38.2: the number of writes begins again after 2^32 - 1, and has no more room in the
// word; a write that differs from the link in it alone fails.
func TestNumberOfWrites(t *testing.T) {
	const most = 1<<32 - 1
	object := written{llsc.New(3), []uint64{word(5, most), word(most, most), word(7, 1<<31-1)}}
	calls := []api.Call{
		load(0, 0), store(0, 0, 6), load(0, 0), store(0, 0, 5),
		load(0, 1), load(1, 1), store(1, 1, most), store(0, 1, 3), load(0, 1),
		load(0, 2), check(0, 2), store(0, 2, 7),
	}
	picks := []int{0, 0, 0, 0, 0, 1, 1, 0, 0, 0, 0, 0}
	r, e := loom.Play(2, calls, picks, object)
	if e != api.OK || len(r.Events) != len(calls) {
		t.Fatal(r, e)
	}
	var vals []uint64
	for _, x := range r.Events {
		vals = append(vals, x.Answer.Val)
	}
	if !slices.Equal(vals, []uint64{5, 1, 6, 1, most, most, 1, 0, most, 7, 1, 1}) {
		t.Error(vals)
	}
	if !slices.Equal(r.Words, []uint64{word(5, 1), word(most, 0), word(7, 1<<31)}) {
		t.Error(r.Words)
	}
}

// R4: the arguments stay what they are, and two reports share no memory.
func TestReportsAlone(t *testing.T) {
	calls := append(make([]api.Call, 0, 4), load(0, 0), store(0, 0, 1))
	picks := append(make([]int, 0, 5), 0, 0, 1)
	before, picksBefore := slices.Clone(calls[:4]), slices.Clone(picks[:5])
	first, second := play(t, 2, 1, calls, picks), play(t, 2, 1, calls, picks)
	if !slices.Equal(calls[:4], before) || !slices.Equal(picks[:5], picksBefore) {
		t.Error("Play changed its arguments")
	}
	first.Words[0] = 99
	first.Events[0].Key[0] = 99
	first.Events[1] = api.Event{}
	if !trial.SameReport(second, play(t, 2, 1, calls, picks)) {
		t.Error("two reports share memory:", second)
	}
}
