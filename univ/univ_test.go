package univ_test

import (
	"math"
	"slices"
	"testing"

	"roundelay/api"
	"roundelay/loom"
	"roundelay/seq"
	"roundelay/trial"
	"roundelay/univ"
)

const top = math.MaxUint64

// play returns the play of a universal object, which must have no error.
func play(t *testing.T, n, p, q int, calls []api.Call, picks []int) api.Report {
	t.Helper()
	r, e := univ.Play(n, p, q, calls, picks)
	if e != api.OK {
		t.Fatalf("Play(%d, %d, %d, %v, %v): %v", n, p, q, calls, picks, e)
	}
	return r
}

// call is a call of a thread.
func call(thread, kind int, arg uint64) api.Call {
	return api.Call{Thread: thread, Kind: kind, A: arg}
}

// word is the word of an operation.
func word(thread, kind, number int, arg uint64) uint64 {
	return arg | uint64(kind)<<32 | uint64(thread)<<40 | uint64(number)<<44
}

// turns is a thread that is picked so many times.
func turns(thread, times int) []int {
	return slices.Repeat([]int{thread}, times)
}

// begin is a course of a universal object.
func begin(t *testing.T, n, p, q int, calls []api.Call) *trial.Course {
	t.Helper()
	c, ok := trial.NewCourse(n, calls, univ.New(p, q))
	if !ok {
		t.Fatalf("no play of %v", calls)
	}
	return c
}

// 18.2: the example of the chapter.
func TestExample(t *testing.T) {
	five := word(0, 1, 1, 5)
	want := api.Report{
		Events: []api.Event{{Inv: 1, Resp: 4, Steps: 4, Key: []int{8}}},
		Words:  []uint64{five, 0, five, 0, 0},
		Counts: api.Counts{Read: 2, Write: 1, Swap: 1},
		Ticks:  4,
	}
	if r := play(t, 2, 0, 3, []api.Call{call(0, 1, 5)}, turns(0, 4)); !trial.SameReport(r, want) {
		t.Errorf("%v; want %v", r, want)
	}
}

// 18.2, 18.3: the accesses of a thread that finds an entry, and then puts its
// own operation into the log, step by step.
func TestSteps(t *testing.T) {
	calls := []api.Call{call(1, 1, 7), call(0, 0, 0)}
	seven, read := word(1, 1, 1, 7), word(0, 0, 1, 0)
	for steps := range 7 {
		want := api.Report{
			Events: []api.Event{{Inv: 1, Resp: 4, Steps: 4, Key: []int{8}}},
			Words:  []uint64{0, seven, seven, 0, 0},
			Counts: api.Counts{Read: 2, Write: 1, Swap: 1},
			Ticks:  4 + min(steps, 5),
			Idle:   max(steps-5, 0),
		}
		if steps > 0 {
			want.Events = append(want.Events, api.Event{Call: 1, Inv: 5, Steps: min(steps, 5)})
			want.Words[0] = read
			want.Counts.Write++
			want.Counts.Read += min(steps-1, 3)
		}
		if steps >= 5 {
			x := &want.Events[1]
			x.Resp, x.Key, x.Answer.Val = 9, []int{18}, 7
			want.Words[3] = read
			want.Counts.Swap++
		}
		if r := play(t, 2, 0, 3, calls, append(turns(1, 4), turns(0, steps)...)); !trial.SameReport(r, want) {
			t.Errorf("%d steps: %v; want %v", steps, r, want)
		}
	}
}

// 18.2, 18.3: an operation that was announced is put into the log by another
// thread when its turn comes, and takes effect there, before it responds with
// what it finds.
func TestHelped(t *testing.T) {
	calls := []api.Call{call(1, 1, 0), call(0, 0, 7), call(0, 0, 8)}
	c := begin(t, 2, 3, 4, calls)
	c.Step(1, 2)
	c.Finish(0)
	c.Step(0, 3)
	stopped := play(t, 2, 3, 4, calls, c.Picks)
	if x := stopped.Events[0]; x.Resp != 0 || x.Key != nil {
		t.Errorf("before the entry: %v", x)
	}
	c.Step(0, 1)
	stopped = play(t, 2, 3, 4, calls, c.Picks)
	if x := stopped.Events[0]; x.Resp != 0 || !slices.Equal(x.Key, []int{20}) || x.Steps != 2 || x.Answer.Val != 0 {
		t.Errorf("after the entry: %v", x)
	}
	c.Finish(0)
	c.Finish(1)
	want := []api.Event{
		// It found the entry 0 free: R b + 0, C that fails, and R; then the entry 1.
		{Call: 0, Inv: 1, Resp: len(c.Picks), Steps: 6, Answer: api.Answer{Val: 7}, Key: []int{20}},
		{Call: 1, Inv: 3, Resp: 6, Steps: 4, Key: []int{12}},
		{Call: 2, Inv: 7, Resp: 13, Steps: 7, Key: []int{26}},
	}
	take, first, second := word(1, 1, 1, 0), word(0, 0, 1, 7), word(0, 0, 2, 8)
	r := play(t, 2, 3, 4, calls, c.Picks)
	if !trial.SameEvents(r.Events, want) || !slices.Equal(r.Words, []uint64{second, take, first, take, second, 0}) {
		t.Errorf("%v; want %v", r, want)
	}
}

// 18.2: what a thread has announced is proposed once: after it was applied, its
// word is ignored, and also the turns of threads that announced nothing.
func TestTurns(t *testing.T) {
	var calls []api.Call
	for range 5 {
		calls = append(calls, call(2, 1, 1))
	}
	calls = append(calls, call(1, 1, 10), call(1, 1, 100))
	c := begin(t, 3, 1, 8, calls)
	c.Finish(1) // the entry 0; the turn of thread 1 is at 1, 4 and 7
	c.Finish(2)
	c.Finish(2)
	c.Step(1, 1)
	for range 3 {
		c.Finish(2)
	}
	c.Finish(1)
	one := func(number int) uint64 { return word(2, 1, number, 1) }
	want := []uint64{0, word(1, 1, 2, 100), one(5), word(1, 1, 1, 10), one(1), one(2), one(3), word(1, 1, 2, 100), one(4), one(5), 0}
	r := play(t, 3, 1, 8, calls, c.Picks)
	if !slices.Equal(r.Words, want) {
		t.Errorf("%x; want %x", r.Words, want)
	}
	for i, q := range []struct {
		val   uint64
		steps int
	}{{0, 4}, {10, 5}, {11, 4}, {13, 5}, {12, 4}, {113, 7}, {114, 4}} {
		if x := r.Events[i]; x.Answer.Val != q.val || x.Steps != q.steps {
			t.Errorf("%v: want %v", x, q)
		}
	}
}

// 18.2, 18.3: an error of the type is the answer of an operation that is in the
// log, and takes effect there.
func TestErrorsOfType(t *testing.T) {
	calls := []api.Call{call(0, 1, 0), call(0, 0, 4), call(0, 2, 0)}
	want := []api.Event{
		{Call: 0, Inv: 1, Resp: 4, Steps: 4, Answer: api.Answer{Err: api.ErrEmpty}, Key: []int{8}},
		{Call: 1, Inv: 5, Resp: 8, Steps: 4, Key: []int{16}},
		{Call: 2, Inv: 9, Resp: 12, Steps: 4, Answer: api.Answer{Val: 4}, Key: []int{24}},
	}
	r := play(t, 1, 2, 3, calls, turns(0, 20))
	if !trial.SameEvents(r.Events, want) || !slices.Equal(r.Words[1:], []uint64{word(0, 1, 1, 0), word(0, 0, 2, 4), word(0, 2, 3, 0)}) {
		t.Errorf("%v; want %v", r, want)
	}
	// A stack that is full, in a log that is not.
	calls = slices.Repeat([]api.Call{call(0, 0, 1)}, 10)
	r = play(t, 1, 2, 10, calls, turns(0, 40))
	for i, x := range r.Events {
		want := api.Answer{}
		if i >= 8 {
			want.Err = api.ErrFull
		}
		if !trial.SameAnswer(x.Answer, want) || !slices.Equal(x.Key, []int{2 * x.Resp}) || x.Steps != 4 {
			t.Error(x)
		}
	}
	// Of a type of which not all arguments are possible.
	calls = []api.Call{call(0, 1, 64), call(0, 1, 63)}
	r = play(t, 1, 4, 2, calls, turns(0, 8))
	if a, b := r.Events[0].Answer, r.Events[1].Answer; a.Err != api.ErrRange || b.Val != 1 || r.Words[1] != word(0, 1, 1, 64) {
		t.Error(r)
	}
}

// 18.2, 18.3: an operation that finds that the log is full announces itself, and
// takes effect with its response, whatever it has found before.
func TestFull(t *testing.T) {
	full := api.Answer{Err: api.ErrFull}
	calls := []api.Call{call(0, 1, 3), call(1, 1, 4), call(0, 0, 0), call(1, 0, 0)}
	want := []api.Event{
		{Call: 0, Inv: 1, Resp: 4, Steps: 4, Key: []int{8}},
		{Call: 1, Inv: 5, Resp: 6, Steps: 2, Answer: full, Key: []int{12, 1}},
		{Call: 2, Inv: 7, Resp: 7, Steps: 1, Answer: full, Key: []int{14, 1}},
		{Call: 3, Inv: 8, Resp: 8, Steps: 1, Answer: full, Key: []int{16, 1}},
	}
	r := play(t, 2, 0, 1, calls, slices.Concat(turns(0, 4), turns(1, 2), turns(0, 1), turns(1, 1)))
	if !trial.SameEvents(r.Events, want) || !slices.Equal(r.Words, []uint64{word(0, 0, 2, 0), word(1, 0, 2, 0), word(0, 1, 1, 3)}) {
		t.Errorf("%v; want %v", r, want)
	}
	// Thread 1 puts the operation of thread 0, whose turn it is, into the last
	// entry, and is refused in that step, after it.
	want = []api.Event{
		{Call: 0, Inv: 1, Resp: 6, Steps: 2, Key: []int{10}},
		{Call: 1, Inv: 2, Resp: 5, Steps: 4, Answer: full, Key: []int{10, 1}},
	}
	r = play(t, 2, 0, 1, calls, []int{0, 1, 1, 1, 1, 0})
	if !trial.SameEvents(r.Events, want) || r.Words[2] != word(0, 1, 1, 3) {
		t.Errorf("%v; want %v", r, want)
	}
	// Thread 1 is still without a key as long as it has not responded.
	r = play(t, 2, 0, 1, calls, []int{1, 0, 0, 0, 0})
	if x := r.Events[0]; x.Call != 1 || x.Key != nil || x.Resp != 0 {
		t.Error(x)
	}
}

// 18.5, 18.6: a slow thread never puts its operation into the log by itself;
// after n entries another one does that, unless the log is full before.
func TestSlow(t *testing.T) {
	for n := 2; n <= api.MaxThreads; n++ {
		for q := 1; q <= n+2; q++ {
			checkSlow(t, n, q)
		}
	}
}

// checkSlow checks the slowest operation of thread 0 for a log of q entries.
func checkSlow(t *testing.T, n, q int) {
	t.Helper()
	calls := append(slices.Repeat([]api.Call{call(1, 1, 1)}, n+1), call(0, 1, 1000))
	c := begin(t, n, 1, q, calls)
	c.Step(1, 3) // thread 1 has seen that thread 0 has announced nothing
	c.Step(0, 3)
	c.Step(1, 1)
	c.Step(0, 2)
	for range min(q, n) - 1 {
		c.Step(0, 2)
		c.Finish(1)
		c.Step(0, 2)
	}
	answer := api.Answer{Err: api.ErrFull}
	key := []int{2 * len(c.Picks), 1}
	if q > n {
		c.Step(0, 2)
		c.Step(1, 4)
		answer = api.Answer{Val: uint64(n)}
		key = []int{2 * len(c.Picks)}
		c.Step(0, 2)
	}
	r := play(t, n, 1, q, calls, c.Picks)
	want := api.Event{Call: n + 1, Inv: 4, Resp: len(c.Picks), Steps: 4*min(q, n+1) + 1, Answer: answer, Key: key}
	if x := r.Events[1]; !trial.SameEvents([]api.Event{x}, []api.Event{want}) {
		t.Errorf("%d threads, %d entries: %v; want %v", n, q, x, want)
	}
	if q > n && r.Words[n+n] != word(0, 1, 1, 1000) {
		t.Errorf("%d threads, %d entries: %x", n, q, r.Words)
	}
}

// 18.1, 18.2: the words of operations of all threads and kinds, and of numbers
// that exceed those of the log, too.
func TestWords(t *testing.T) {
	calls := []api.Call{call(0, 0, 1<<32-1), call(7, 2, 0), call(8, 1, 1<<31), call(15, 2, 1<<32-2), call(15, 1, 1)}
	c := begin(t, 16, 3, 256, calls)
	var want []uint64
	for i, x := range calls {
		c.Finish(x.Thread)
		number := 1
		if i == 4 {
			number = 2
		}
		want = append(want, word(x.Thread, x.Kind, number, x.A))
	}
	r := play(t, 16, 3, 256, calls, c.Picks)
	if len(r.Words) != 16+256 || !slices.Equal(r.Words[16:21], want) || r.Words[15] != want[4] || r.Words[7] != want[1] || r.Words[8] != want[2] {
		t.Errorf("%x; want %x", r.Words, want)
	}
	calls = slices.Repeat([]api.Call{call(0, 1, 6)}, api.MaxCalls)
	r = play(t, 1, 1, 256, calls, turns(0, 4000))
	if len(r.Events) != 1000 || r.Ticks != 4*256+744 || r.Words[0] != word(0, 1, 1000, 6) || r.Words[256] != word(0, 1, 256, 6) {
		t.Error(len(r.Events), r.Ticks, r.Words)
	}
	for i, x := range r.Events {
		want := api.Answer{Val: uint64(6 * i)}
		if i >= 256 {
			want = api.Answer{Err: api.ErrFull}
		}
		if !trial.SameAnswer(x.Answer, want) {
			t.Errorf("%v: want %v", x, want)
		}
	}
}

// 18.2: operations of every type, executed one by one.
func TestTypes(t *testing.T) {
	for p := range 8 {
		for kind := range seq.Kinds(p) {
			calls := []api.Call{call(0, 0, 1), call(0, kind, 1), call(0, 1, 1<<24+3), call(0, kind, 2), call(0, kind, 1)}
			state := seq.New(p)
			r := play(t, 1, p, 5, calls, turns(0, 20))
			for i, c := range calls {
				var want api.Answer
				state, want = seq.Apply(p, state, c.Kind, c.A)
				if !trial.SameAnswer(r.Events[i].Answer, want) {
					t.Errorf("type %d, %v: %v; want %v", p, calls, r.Events[i], want)
				}
			}
		}
	}
}

// 18.2: operations that respond with an error at once make no access, and are
// not numbered.
func TestErrorsWithoutAccess(t *testing.T) {
	for _, q := range []struct {
		p    int
		call api.Call
		want api.Errno
	}{
		{0, call(0, 0, 1<<32), api.ErrRange},
		{3, call(1, 2, 1<<32), api.ErrRange},
		{4, call(0, 1, 1<<63), api.ErrRange},
		{7, call(1, 1, top), api.ErrRange},
		{0, call(0, 2, 0), api.ErrKind},
		{1, call(0, 2, 1<<32), api.ErrKind},
		{2, call(1, 3, top), api.ErrKind},
		{5, call(0, 2, 0), api.ErrKind},
		{6, call(0, 2, 0), api.ErrKind},
		{7, call(0, 256, 0), api.ErrKind},
		{2, call(0, -1, 0), api.ErrKind},
		{2, call(0, math.MaxInt, 0), api.ErrKind},
		{2, call(0, math.MinInt, 0), api.ErrKind},
		{2, api.Call{Obj: 1}, api.ErrObj},
		{2, api.Call{Obj: -1, Kind: 3, A: top}, api.ErrObj},
	} {
		thread := q.call.Thread
		want := api.Report{
			Events: []api.Event{{Inv: 1, Resp: 1, Steps: 1, Answer: api.Answer{Err: q.want}, Key: []int{2}}},
			Words:  make([]uint64, 2+3),
			Ticks:  1,
			Idle:   1,
		}
		if r := play(t, 2, q.p, 3, []api.Call{q.call}, turns(thread, 2)); !trial.SameReport(r, want) {
			t.Errorf("%v: %v; want %v", q, r, want)
		}
		r := play(t, 2, q.p, 3, []api.Call{q.call, call(thread, 0, 5)}, turns(thread, 5))
		if r.Words[thread] != word(thread, 0, 1, 5) || r.Words[2] != r.Words[thread] {
			t.Errorf("after %v: %x", q, r.Words)
		}
	}
	// In a log that is full, these errors come first, too.
	calls := []api.Call{call(0, 0, 0), call(0, 2, 0), call(0, 1, 1<<32), call(0, 1, 0)}
	r := play(t, 1, 0, 1, calls, turns(0, 7))
	for i, want := range []api.Errno{api.OK, api.ErrKind, api.ErrRange, api.ErrFull} {
		if x := r.Events[i]; x.Answer.Err != want || i > 0 && x.Steps != 1 {
			t.Errorf("%v: want %v", x, want)
		}
	}
	if !slices.Equal(r.Events[2].Key, []int{12}) || !slices.Equal(r.Events[3].Key, []int{14, 1}) {
		t.Error(r.Events)
	}
}

// 18.2: operations ignore what they have no use for.
func TestIgnoredArguments(t *testing.T) {
	r := play(t, 1, 0, 2, []api.Call{{Kind: 1, A: 4, B: top, C: top}, {A: 7, B: top, C: top}}, turns(0, 8))
	if !slices.Equal(r.Words, []uint64{word(0, 0, 2, 7), word(0, 1, 1, 4), word(0, 0, 2, 7)}) || r.Events[1].Answer.Val != 4 {
		t.Error(r)
	}
}

// 18.1: the errors of a play, in their order, and no report with them (R7).
func TestPlayErrors(t *testing.T) {
	for i, w := range trial.WrongPlays() {
		for _, q := range [][2]int{{0, 1}, {8, 0}} {
			if r, e := univ.Play(w.N, q[0], q[1], w.Calls, w.Picks); e != w.Want || !trial.SameReport(r, api.Report{}) {
				t.Errorf("%d, %v: %v, %v; want %v", i, q, r, e, w.Want)
			}
		}
	}
	calls := []api.Call{call(0, 0, 1)}
	for _, q := range [][2]int{
		{-1, 1}, {8, 1}, {256, 1}, {math.MinInt, 1}, {math.MaxInt, 1},
		{0, 0}, {0, -1}, {0, 257}, {0, math.MinInt}, {0, math.MaxInt}, {8, 257},
	} {
		if r, e := univ.Play(2, q[0], q[1], calls, []int{0}); e != api.ErrRange || !trial.SameReport(r, api.Report{}) {
			t.Errorf("%v: %v, %v", q, r, e)
		}
	}
}

// 18.1: plays at the limits, and without calls.
func TestPlayLimits(t *testing.T) {
	for n := 1; n <= api.MaxThreads; n++ {
		for p := range 8 {
			for _, q := range []int{1, 2, 255, 256} {
				if r := play(t, n, p, q, nil, nil); !trial.SameReport(r, api.Report{Words: make([]uint64, n+q)}) {
					t.Errorf("%d threads, type %d, %d entries: %v", n, p, q, r)
				}
			}
		}
	}
	var calls []api.Call
	for i := range api.MaxCalls {
		calls = append(calls, call(i%16, 1, 1))
	}
	picks := slices.Repeat(threads(16), api.MaxPicks/16)
	r := play(t, 16, 1, 256, calls, picks)
	if len(r.Events) != 1000 || r.Ticks+r.Idle != api.MaxPicks {
		t.Fatal(len(r.Events), r.Ticks, r.Idle)
	}
	done := 0
	for _, x := range r.Events {
		if x.Answer.Err == api.OK && x.Resp != 0 {
			done++
		}
	}
	if done != 256 {
		t.Error(done)
	}
}

// W6: the place of a universal object in the memory changes no event, and no
// word. Of two of them, each one has its own log.
func TestElsewhere(t *testing.T) {
	calls := []api.Call{call(1, 1, 0), call(0, 0, 7), call(0, 0, 8), call(1, 2, 0), call(0, 1, 0), call(1, 0, 9)}
	picks := slices.Concat(turns(1, 2), turns(0, 11), turns(1, 9), turns(0, 9), turns(1, 20), turns(0, 20))
	near := play(t, 2, 3, 5, calls, picks)
	away := slices.Clone(calls)
	for i := range away {
		away[i].Obj = 2
	}
	far, e := loom.Play(2, away, picks, univ.New(0, 3), loom.NewCells(1), univ.New(3, 5), univ.New(3, 5))
	if e != api.OK || len(far.Events) != 6 || !trial.SameEvents(near.Events, far.Events) || near.Counts != far.Counts {
		t.Fatalf("%v; %v; %v", e, near, far)
	}
	for i, w := range far.Words {
		want := uint64(0)
		if i >= 6 && i < 13 {
			want = near.Words[i-6]
		}
		if w != want {
			t.Errorf("%x; %x", near.Words, far.Words)
		}
	}
	both := []api.Call{call(0, 1, 4), {Obj: 1, Kind: 1, A: 6}, {Obj: 1}, call(0, 0, 0)}
	r, e := loom.Play(1, both, turns(0, 20), univ.New(0, 1), univ.New(1, 2))
	if e != api.OK || len(r.Events) != 4 || r.Events[2].Answer.Val != 6 || r.Events[3].Answer.Err != api.ErrFull {
		t.Error(e, r)
	}
}

// R5: an object that is played again begins as it began before.
func TestAgain(t *testing.T) {
	object := univ.New(2, 2)
	for range 2 {
		r, e := loom.Play(1, []api.Call{call(0, 0, 9), call(0, 1, 0)}, turns(0, 8), object)
		if e != api.OK || !slices.Equal(r.Words, []uint64{word(0, 1, 2, 0), word(0, 0, 1, 9), word(0, 1, 2, 0)}) || r.Events[1].Answer.Val != 9 {
			t.Error(e, r)
		}
	}
}

// R4: the arguments stay what they are, and two reports share no memory.
func TestReportsAlone(t *testing.T) {
	calls := append(make([]api.Call, 0, 4), call(0, 1, 3), call(0, 0, 0))
	picks := append(make([]int, 0, 9), turns(0, 8)...)
	before, picksBefore := slices.Clone(calls[:4]), slices.Clone(picks[:9])
	first, second := play(t, 1, 0, 1, calls, picks), play(t, 1, 0, 1, calls, picks)
	if !slices.Equal(calls[:4], before) || !slices.Equal(picks[:9], picksBefore) {
		t.Error("Play changed its arguments")
	}
	first.Words[0] = 99
	first.Events[1].Key[0] = 99
	first.Events[0] = api.Event{}
	if !trial.SameReport(second, play(t, 1, 0, 1, calls, picks)) {
		t.Error("two reports share memory:", second)
	}
}
