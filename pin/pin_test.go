package pin_test

import (
	"math"
	"slices"
	"testing"

	"roundelay/api"
	"roundelay/loom"
	"roundelay/pin"
	"roundelay/trial"
)

const top = math.MaxUint64

// play returns the play of a pin register, which must have no error.
func play(t *testing.T, n, w int, calls []api.Call, picks []int) api.Report {
	t.Helper()
	r, e := pin.Play(n, w, calls, picks)
	if e != api.OK {
		t.Fatalf("Play(%d, %d, %v, %v): %v", n, w, calls, picks, e)
	}
	return r
}

// writing is a call that writes, which thread 0 makes.
func writing(first uint64) api.Call {
	return api.Call{Kind: 0, A: first}
}

// reading is a call that reads.
func reading(thread int) api.Call {
	return api.Call{Thread: thread, Kind: 1}
}

// wordsOf is how many words a register has.
func wordsOf(n, w int) int {
	return 1 + (n + 1) + (n+1)*w
}

// numbers is a list of w numbers, each one greater by 1 than the one before it.
func numbers(first uint64, w int) []uint64 {
	var l []uint64
	for i := range w {
		l = append(l, first+uint64(i))
	}
	return l
}

// 14.3: the example of the chapter.
func TestExample(t *testing.T) {
	calls := []api.Call{writing(7), reading(1), reading(1)}
	want := api.Report{
		Events: []api.Event{
			{Call: 1, Inv: 1, Resp: 6, Steps: 3, Answer: api.Answer{List: []uint64{0}}, Key: []int{2}},
			{Call: 0, Inv: 2, Resp: 4, Steps: 3, Key: []int{8}},
			{Call: 2, Inv: 7, Resp: 9, Steps: 3, Answer: api.Answer{List: []uint64{7}}, Key: []int{14}},
		},
		Words:  []uint64{1<<32 + 2, 1, 1, 0, 0, 7, 0},
		Counts: api.Counts{Read: 3, Write: 1, Add: 5},
		Ticks:  9,
	}
	if r := play(t, 2, 1, calls, []int{1, 0, 0, 0, 1, 1, 1, 1, 1}); !trial.SameReport(r, want) {
		t.Errorf("%v; want %v", r, want)
	}
}

// 14.2: the accesses of writes, one after the other; without readers they
// change between the buffers 0 and 1.
func TestWriteSteps(t *testing.T) {
	calls := []api.Call{writing(5), writing(8)}
	for i, want := range [][]uint64{
		{0, 0, 0, 0, 0, 0, 0, 0, 0, 0},
		{0, 0, 0, 0, 0, 0, 0, 0, 0, 0},
		{0, 0, 0, 0, 0, 0, 5, 0, 0, 0},
		{0, 0, 0, 0, 0, 0, 5, 6, 0, 0},
		{1 << 32, 0, 0, 0, 0, 0, 5, 6, 0, 0},
		{1 << 32, 0, 0, 0, 0, 0, 5, 6, 0, 0},
		{1 << 32, 0, 0, 0, 8, 0, 5, 6, 0, 0},
		{1 << 32, 0, 0, 0, 8, 9, 5, 6, 0, 0},
		{0, 0, 0, 0, 8, 9, 5, 6, 0, 0},
		{0, 0, 0, 0, 8, 9, 5, 6, 0, 0},
	} {
		r := play(t, 2, 2, calls, make([]int, i))
		if !slices.Equal(r.Words, want) || r.Ticks != min(i, 8) {
			t.Errorf("after %d steps: %v; want %v", i, r, want)
		}
		for _, x := range r.Events {
			if x.Resp == 0 && len(x.Key) != 0 {
				t.Errorf("a key before the response: %v", x)
			}
		}
	}
}

// 14.3: the accesses of a read, one after the other; it has no key before it
// responds, and then that of its first one.
func TestReadSteps(t *testing.T) {
	calls := []api.Call{writing(5), reading(1)}
	picks := []int{0, 0, 0, 0, 1, 1, 1, 1}
	for i, want := range []struct {
		cell, left uint64
		event      api.Event
	}{
		{1<<32 + 1, 0, api.Event{Steps: 1}},
		{1<<32 + 1, 0, api.Event{Steps: 2}},
		{1<<32 + 1, 0, api.Event{Steps: 3}},
		{1<<32 + 1, 1, api.Event{Steps: 4, Resp: 8, Answer: api.Answer{List: []uint64{5, 6}}, Key: []int{10}}},
	} {
		r := play(t, 2, 2, calls, picks[:5+i])
		want.event.Call, want.event.Inv = 1, 5
		words := []uint64{want.cell, 0, want.left, 0, 0, 0, 5, 6, 0, 0}
		if !slices.Equal(r.Words, words) || !trial.SameEvents(r.Events[1:], []api.Event{want.event}) {
			t.Errorf("after %d steps: %v; want %v", 5+i, r, want)
		}
	}
}

// 14.2, 14.3: all words, of the least and the greatest number of words and
// threads; numbers are modulo 2^64.
func TestWidths(t *testing.T) {
	for n := 1; n <= api.MaxThreads; n++ {
		for w := 1; w <= 8; w++ {
			for _, first := range []uint64{1, 1 << 63, top, top - 2} {
				calls := []api.Call{reading(n - 1), writing(first), reading(n - 1)}
				picks := slices.Concat(slices.Repeat([]int{n - 1}, w+2), slices.Repeat([]int{0}, w+2), slices.Repeat([]int{n - 1}, w+2))
				r := play(t, n, w, calls, picks)
				words := make([]uint64, wordsOf(n, w))
				words[0], words[1], words[2] = 1<<32+2, 1, 1
				copy(words[n+2+w:], numbers(first, w))
				if !slices.Equal(r.Words, words) || r.Counts != (api.Counts{Read: 2*w + 1, Write: w, Add: 5}) {
					t.Errorf("%d threads, %d words: %v; want %v", n, w, r, words)
				}
				if !slices.Equal(r.Events[0].Answer.List, make([]uint64, w)) || !slices.Equal(r.Events[2].Answer.List, numbers(first, w)) {
					t.Errorf("%d threads, %d words: %v", n, w, r.Events)
				}
			}
		}
	}
}

// 14.2, 14.5: with a reader in each buffer but two, of which one is in the cell,
// a write examines all others, and finds the last one.
func TestAllReadersInside(t *testing.T) {
	for n := 2; n <= api.MaxThreads; n++ {
		for _, w := range []int{1, 3, 8} {
			var calls []api.Call
			var picks []int
			var steps []int
			for p := 1; p < n; p++ {
				calls = append(calls, reading(p), writing(uint64(100*p)))
				picks = append(picks, p)
				picks = append(picks, slices.Repeat([]int{0}, p+w+1)...)
				steps = append(steps, 1, p+w+1)
			}
			calls = append(calls, writing(5000), writing(6000))
			picks = append(picks, slices.Repeat([]int{0}, 2*(n+w+1))...)
			steps = append(steps, n+w+1, n+w+1)
			r := play(t, n, w, calls, picks)
			for i, x := range r.Events {
				if x.Steps != steps[i] || x.Call != i || (x.Resp == 0) != (calls[i].Kind == 1) {
					t.Errorf("%d threads, %d words: %v; want %d steps", n, w, x, steps[i])
				}
			}
			checkEachBuffer(t, n, w, r.Words)
			if t.Failed() {
				t.FailNow()
			}
		}
	}
}

// checkEachBuffer checks the words when the readers stay in the buffers from 0
// on, each one of which was written once, and the last two come last.
func checkEachBuffer(t *testing.T, n, w int, words []uint64) {
	t.Helper()
	want := []uint64{uint64(n-1)<<32 + uint64(n-1)}
	want = append(want, make([]uint64, n+1)...)
	want = append(want, make([]uint64, w)...)
	for p := 1; p < n-1; p++ {
		want = append(want, numbers(uint64(100*p), w)...)
	}
	want = append(want, numbers(6000, w)...)
	want = append(want, numbers(5000, w)...)
	if !slices.Equal(words, want) {
		t.Errorf("%d threads, %d words: %v; want %v", n, w, words, want)
	}
}

// 14.2: a reader that leaves its buffer while a write examines the buffers: a
// buffer that was passed is not examined again.
func TestLeavesDuringWrite(t *testing.T) {
	calls := []api.Call{reading(1), writing(10), reading(2), writing(20), writing(30)}
	start := []int{1, 0, 0, 0, 2, 0, 0, 0, 0, 1, 2}
	for _, q := range []struct {
		picks []int
		cell  uint64
		steps int
	}{
		{[]int{0, 0, 0, 0, 0}, 3, 5},
		{[]int{1, 0, 0, 0, 0, 0}, 0, 3},
		{[]int{0, 1, 0, 0, 0, 0}, 3, 5},
		{[]int{2, 0, 0, 0, 0, 0}, 1, 4},
		{[]int{0, 2, 0, 0, 0, 0}, 1, 4},
		{[]int{0, 0, 1, 2, 0, 0, 0}, 3, 5},
	} {
		r := play(t, 3, 1, calls, slices.Concat(start, q.picks))
		x := r.Events[4]
		if x.Call != 4 || x.Resp == 0 || x.Steps != q.steps || r.Words[0] != q.cell<<32+2 {
			t.Errorf("%v: %v, %v; want %d", q, x, r.Words, q.cell)
		}
	}
}

// 14.2: readers that enter a buffer when it is in the cell again are counted
// apart from those that entered it before.
func TestEntersAgain(t *testing.T) {
	calls := []api.Call{reading(1), reading(2), writing(10), writing(20), reading(1), reading(2), writing(30), writing(40), reading(3), writing(50)}
	picks := slices.Concat(
		[]int{1, 2, 1, 1, 2, 2}, // two readers pass the buffer 0
		[]int{0, 0, 0, 0, 0, 0}, // the buffer 1 is written, and then the buffer 0
		[]int{1, 2, 2, 2, 1},    // one reader leaves it, and one remains
		[]int{0, 0, 0},          // the buffer 1
		[]int{0, 0, 0, 0},       // not the buffer 0, but 2
		[]int{1, 3, 0, 0, 0},    // nobody is in the buffer 0 any more
	)
	r := play(t, 4, 1, calls, picks)
	var steps []int
	for _, x := range r.Events {
		steps = append(steps, x.Steps)
	}
	if !slices.Equal(steps, []int{3, 3, 3, 3, 3, 3, 3, 4, 1, 3}) {
		t.Error(steps)
	}
	if !slices.Equal(r.Words, []uint64{5, 4, 0, 0, 0, 0, 50, 30, 40, 0, 0}) {
		t.Error(r.Words)
	}
}

// 14.2, 14.3: operations that respond with an error at once make no access.
func TestErrorsWithoutAccess(t *testing.T) {
	for _, q := range []struct {
		call api.Call
		want api.Errno
	}{
		{api.Call{Thread: 1, A: 7}, api.ErrRole},
		{api.Call{Thread: 2}, api.ErrRole},
		{api.Call{Kind: 2}, api.ErrKind},
		{api.Call{Thread: 1, Kind: 2}, api.ErrKind},
		{api.Call{Thread: 2, Kind: -1}, api.ErrKind},
		{api.Call{Kind: math.MaxInt}, api.ErrKind},
		{api.Call{Kind: math.MinInt}, api.ErrKind},
		{api.Call{Thread: 1, Obj: 1}, api.ErrObj},
		{api.Call{Obj: -1, Kind: 2}, api.ErrObj},
	} {
		want := api.Report{
			Events: []api.Event{{Inv: 1, Resp: 1, Steps: 1, Answer: api.Answer{Err: q.want}, Key: []int{2}}},
			Words:  make([]uint64, wordsOf(3, 2)),
			Ticks:  1,
			Idle:   1,
		}
		if r := play(t, 3, 2, []api.Call{q.call}, slices.Repeat([]int{q.call.Thread}, 2)); !trial.SameReport(r, want) {
			t.Errorf("%v: %v; want %v", q, r, want)
		}
	}
}

// 14.2, 14.3: operations ignore what they have no use for.
func TestIgnoredArguments(t *testing.T) {
	calls := []api.Call{{Kind: 0, A: 4, B: top, C: top}, {Kind: 1, A: top, B: top, C: top}}
	r := play(t, 1, 1, calls, make([]int, 6))
	if len(r.Events) != 2 || !trial.SameAnswer(r.Events[0].Answer, api.Answer{}) || !trial.SameAnswer(r.Events[1].Answer, api.Answer{List: []uint64{4}}) {
		t.Error(r)
	}
}

// 14.1: the errors of a play, in their order, and no report with them (R7).
func TestPlayErrors(t *testing.T) {
	for i, q := range trial.WrongPlays() {
		for _, w := range []int{1, 0} {
			if r, e := pin.Play(q.N, w, q.Calls, q.Picks); e != q.Want || !trial.SameReport(r, api.Report{}) {
				t.Errorf("%d, %d words: %v, %v; want %v", i, w, r, e, q.Want)
			}
		}
	}
	for _, w := range []int{0, -1, 9, 1 << 60, math.MaxInt, math.MinInt} {
		if r, e := pin.Play(2, w, []api.Call{writing(1)}, []int{0}); e != api.ErrRange || !trial.SameReport(r, api.Report{}) {
			t.Errorf("%d words: %v, %v", w, r, e)
		}
	}
}

// 14.1: plays at the limits, and without calls.
func TestPlayLimits(t *testing.T) {
	calls := slices.Repeat([]api.Call{reading(15), writing(top)}, api.MaxCalls/2)
	picks := slices.Repeat(slices.Concat(slices.Repeat([]int{15}, 10), make([]int, 10)), 500)
	picks = append(picks, make([]int, api.MaxPicks-len(picks))...)
	r := play(t, 16, 8, calls, picks)
	if len(r.Events) != 1000 || r.Ticks != 10000 || r.Idle != api.MaxPicks-10000 || r.Words[0] != 500 {
		t.Fatal(len(r.Events), r.Ticks, r.Idle, r.Words[0])
	}
	if x := r.Events[998]; !slices.Equal(x.Answer.List, numbers(top, 8)) || !slices.Equal(x.Key, []int{2 * x.Inv}) {
		t.Error(x)
	}
	for n := 1; n <= api.MaxThreads; n++ {
		for w := 1; w <= 8; w++ {
			if r := play(t, n, w, nil, nil); !trial.SameReport(r, api.Report{Words: make([]uint64, wordsOf(n, w))}) {
				t.Errorf("%d threads, %d words: %v", n, w, r)
			}
		}
	}
}

// W6: the place of a register in the memory changes no event, and its words
// alone; of two registers each one has its own buffers, and readers.
func TestElsewhere(t *testing.T) {
	calls := []api.Call{reading(1), writing(10), writing(20), reading(1), writing(30), reading(0), {Thread: 1}}
	picks := []int{1, 0, 0, 0, 0, 0, 0, 1, 0, 0, 0, 1, 1, 1, 0, 1, 0, 0, 0, 1, 0, 0, 1, 0, 0, 0, 0, 1}
	near := play(t, 2, 2, calls, picks)
	away := slices.Clone(calls)
	for i := range away {
		away[i].Obj = 2
	}
	far, e := loom.Play(2, away, picks, pin.New(1), loom.NewCells(1), pin.New(2), pin.New(2))
	if e != api.OK || len(far.Events) != 7 || !trial.SameEvents(near.Events, far.Events) || near.Counts != far.Counts {
		t.Fatalf("%v; %v; %v", e, near, far)
	}
	begin, size := wordsOf(2, 1)+1, wordsOf(2, 2)
	if !slices.Equal(near.Words, far.Words[begin:begin+size]) {
		t.Errorf("%v; %v", near.Words, far.Words)
	}
	for i, w := range far.Words {
		if w != 0 && (i < begin || i >= begin+size) {
			t.Errorf("%d: %v", i, far.Words)
		}
	}
	both := []api.Call{writing(1), {Obj: 1, A: 8}, {Obj: 1, Kind: 1}, {Kind: 1}, writing(3), {Obj: 1, Kind: 1}}
	r, e := loom.Play(1, both, make([]int, 30), pin.New(1), pin.New(1))
	if e != api.OK || len(r.Events) != 6 || !slices.Equal(r.Events[2].Answer.List, []uint64{8}) || !slices.Equal(r.Events[3].Answer.List, []uint64{1}) || !slices.Equal(r.Events[5].Answer.List, []uint64{8}) {
		t.Error(e, r)
	}
}

// R5: an object that is played again begins as it began before.
func TestAgain(t *testing.T) {
	object := pin.New(1)
	want := []uint64{1<<32 + 1, 0, 1, 0, 9}
	for range 2 {
		r, e := loom.Play(1, []api.Call{writing(9), reading(0)}, make([]int, 6), object)
		if e != api.OK || !slices.Equal(r.Words, want) || len(r.Events) != 2 || !slices.Equal(r.Events[1].Answer.List, []uint64{9}) {
			t.Error(e, r)
		}
	}
}

// R4: the arguments stay what they are, and two reports share no memory.
func TestReportsAlone(t *testing.T) {
	calls := append(make([]api.Call, 0, 4), writing(3), reading(1))
	picks := append(make([]int, 0, 9), 0, 0, 0, 1, 1, 1)
	before, picksBefore := slices.Clone(calls[:4]), slices.Clone(picks[:9])
	first, second := play(t, 2, 1, calls, picks), play(t, 2, 1, calls, picks)
	if !slices.Equal(calls[:4], before) || !slices.Equal(picks[:9], picksBefore) {
		t.Error("Play changed its arguments")
	}
	first.Words[0] = 99
	first.Events[1].Key[0] = 99
	first.Events[1].Answer.List[0] = 99
	first.Events[0] = api.Event{}
	if !trial.SameReport(second, play(t, 2, 1, calls, picks)) {
		t.Error("two reports share memory:", second)
	}
}
