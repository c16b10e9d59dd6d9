package tally_test

import (
	"math"
	"reflect"
	"slices"
	"testing"

	"roundelay/api"
	"roundelay/keys"
	"roundelay/loom"
	"roundelay/pick"
	"roundelay/tally"
	"roundelay/trial"
)

// play returns the play of a tally, which must have no error.
func play(t *testing.T, n int, calls []api.Call, picks []int) api.Report {
	t.Helper()
	r, e := tally.Play(n, calls, picks)
	if e != api.OK {
		t.Fatalf("Play(%d, %v, %v): %v", n, calls, picks, e)
	}
	return r
}

// counting is a call that counts.
func counting(thread int) api.Call {
	return api.Call{Thread: thread, Kind: 0}
}

// reading is a call that reads.
func reading(thread int) api.Call {
	return api.Call{Thread: thread, Kind: 1}
}

// 8.2: the example of the chapter.
func TestExample(t *testing.T) {
	calls := []api.Call{counting(0), reading(1)}
	want := api.Report{
		Events: []api.Event{
			{Call: 0, Inv: 1, Resp: 2, Steps: 2, Key: []int{4}},
			{Call: 1, Inv: 3, Resp: 4, Steps: 2, Answer: api.Answer{Val: 1}, Key: []int{6, 8}},
		},
		Words:  []uint64{1, 0},
		Counts: api.Counts{Read: 3, Write: 1},
		Ticks:  4,
	}
	if r := play(t, 2, calls, []int{0, 0, 1, 1}); !trial.SameReport(r, want) {
		t.Errorf("%v; want %v", r, want)
	}
}

// 8.2: each thread counts in its own word, and a read finds all of them, for
// the least and the greatest number of threads.
func TestWordForEachThread(t *testing.T) {
	for _, n := range []int{1, 2, 3, 15, 16} {
		var calls []api.Call
		var picks []int
		var words []uint64
		sum := 0
		for p := range n {
			for range p + 1 {
				calls = append(calls, counting(p))
				picks = append(picks, p, p)
				sum++
			}
			words = append(words, uint64(p+1))
		}
		calls = append(calls, reading(n-1))
		for range n {
			picks = append(picks, n-1)
		}
		r := play(t, n, calls, picks)
		x := r.Events[len(r.Events)-1]
		if x.Answer.Val != uint64(sum) || x.Steps != n || x.Resp != 2*sum+n {
			t.Errorf("%d threads: %v; want %d", n, x, sum)
		}
		if !slices.Equal(r.Words, words) || r.Counts != (api.Counts{Read: sum + n, Write: sum}) {
			t.Errorf("%d threads: %v", n, r)
		}
	}
}

// 8.2: operations that respond with an error at once make no access.
func TestErrorsWithoutAccess(t *testing.T) {
	for _, q := range []struct {
		call api.Call
		want api.Errno
	}{
		{api.Call{Kind: 2}, api.ErrKind},
		{api.Call{Kind: -1}, api.ErrKind},
		{api.Call{Kind: math.MaxInt}, api.ErrKind},
		{api.Call{Kind: math.MinInt}, api.ErrKind},
		{api.Call{Obj: 1}, api.ErrObj},
		{api.Call{Obj: -1, Kind: 2}, api.ErrObj},
	} {
		want := api.Report{
			Events: []api.Event{{Inv: 1, Resp: 1, Steps: 1, Answer: api.Answer{Err: q.want}, Key: []int{2}}},
			Words:  []uint64{0, 0},
			Ticks:  1,
			Idle:   1,
		}
		if r := play(t, 2, []api.Call{q.call}, []int{0, 0}); !trial.SameReport(r, want) {
			t.Errorf("%v: %v; want %v", q.call, r, want)
		}
	}
}

// 8.2: operations ignore what they have no use for.
func TestIgnoredArguments(t *testing.T) {
	const top = math.MaxUint64
	calls := []api.Call{{Kind: 0, A: top, B: top, C: top}, {Kind: 1, A: top, B: top, C: top}}
	r := play(t, 1, calls, []int{0, 0, 0})
	if len(r.Events) != 2 || !reflect.DeepEqual(r.Events[0].Answer, api.Answer{}) || !reflect.DeepEqual(r.Events[1].Answer, api.Answer{Val: 1}) {
		t.Error(r)
	}
}

// 8.2: the accesses of a count, step by step; it has no key before its W (8.3).
func TestCountSteps(t *testing.T) {
	calls := []api.Call{counting(0), counting(1)}
	picks := []int{1, 0, 1, 0}
	for i, want := range []api.Report{
		{Words: []uint64{0, 0}},
		{Words: []uint64{0, 0}, Counts: api.Counts{Read: 1}},
		{Words: []uint64{0, 0}, Counts: api.Counts{Read: 2}},
		{Words: []uint64{0, 1}, Counts: api.Counts{Read: 2, Write: 1}},
		{Words: []uint64{1, 1}, Counts: api.Counts{Read: 2, Write: 2}},
	} {
		r := play(t, 2, calls, picks[:i])
		if !slices.Equal(r.Words, want.Words) || r.Counts != want.Counts {
			t.Errorf("after %d steps: %v; want %v", i, r, want)
		}
	}
	want := []api.Event{
		{Call: 1, Inv: 1, Resp: 3, Steps: 2, Key: []int{6}},
		{Call: 0, Inv: 2, Steps: 1},
	}
	if r := play(t, 2, calls, picks[:3]); !trial.SameEvents(r.Events, want) {
		t.Errorf("%v; want %v", r.Events, want)
	}
}

// 8.2, 8.3: a read goes from the word of thread 0 on: of what happens during
// it, it finds only what comes to words that are ahead of it.
func TestSlowRead(t *testing.T) {
	calls := []api.Call{counting(0), counting(1), counting(2), reading(3)}
	for _, q := range []struct {
		picks []int
		val   uint64
		key   []int
	}{
		{[]int{3, 3, 3, 3}, 0, []int{2, 8}},
		{[]int{0, 0, 3, 3, 3, 3}, 1, []int{6, 12}},
		{[]int{0, 3, 0, 3, 3, 3}, 0, []int{4, 12}},
		{[]int{0, 3, 0, 1, 1, 3, 3, 3}, 1, []int{6, 16}},
		{[]int{3, 0, 0, 3, 1, 1, 3, 2, 2, 3}, 0, []int{2, 20}},
		{[]int{3, 2, 2, 0, 0, 1, 3, 1, 3, 3}, 1, []int{6, 20}},
		{[]int{0, 0, 1, 1, 2, 2, 3, 3, 3, 3}, 3, []int{14, 20}},
		{[]int{0, 0, 3, 1, 1, 3, 3, 2, 2, 3}, 2, []int{10, 20}},
	} {
		r := play(t, 4, calls, q.picks)
		i := slices.IndexFunc(r.Events, func(x api.Event) bool { return x.Call == 3 })
		x := r.Events[i]
		if !reflect.DeepEqual(x.Answer, api.Answer{Val: q.val}) || x.Steps != 4 || !slices.Equal(x.Key, q.key) {
			t.Errorf("%v: %v; want %d, %v", q.picks, x, q.val, q.key)
		}
	}
}

// 8.3: a read that has not responded has no key.
func TestPendingRead(t *testing.T) {
	want := []api.Event{{Call: 0, Inv: 1, Steps: 2}}
	if r := play(t, 3, []api.Call{reading(1)}, []int{1, 1}); !trial.SameEvents(r.Events, want) {
		t.Errorf("%v; want %v", r.Events, want)
	}
}

// 8.1: the errors of a play, in their order, and no report with them (R7).
func TestPlayErrors(t *testing.T) {
	for i, q := range trial.WrongPlays() {
		if r, e := tally.Play(q.N, q.Calls, q.Picks); e != q.Want || !trial.SameReport(r, api.Report{}) {
			t.Errorf("%d: %v, %v; want %v", i, r, e, q.Want)
		}
	}
}

// 8.1: plays at the limits, and without calls.
func TestPlayLimits(t *testing.T) {
	calls := make([]api.Call, api.MaxCalls)
	for i := range calls {
		calls[i] = counting(15)
	}
	calls[api.MaxCalls-1].Kind = 1
	picks := make([]int, api.MaxPicks)
	for i := range picks {
		picks[i] = 15
	}
	r := play(t, 16, calls, picks)
	last := r.Events[len(r.Events)-1]
	if len(r.Events) != 1000 || r.Ticks != 2014 || r.Idle != api.MaxPicks-2014 {
		t.Error(len(r.Events), r.Ticks, r.Idle)
	}
	if last.Answer.Val != 999 || !slices.Equal(last.Key, []int{2 * 1999, 2 * 2014}) {
		t.Error(last)
	}
	if r := play(t, 3, nil, nil); !trial.SameReport(r, api.Report{Words: []uint64{0, 0, 0}}) {
		t.Error(r)
	}
}

// 8.1 to 8.6: all plays of a few threads, and what the chapter says of each.
func TestAllPlays(t *testing.T) {
	for _, q := range []struct {
		n, picks int
		calls    []api.Call
	}{
		{1, 6, []api.Call{reading(0), counting(0), reading(0), counting(0)}},
		{2, 10, []api.Call{counting(0), counting(1), reading(0), reading(1), counting(0), counting(1)}},
		{2, 10, []api.Call{reading(0), reading(0), {Thread: 1, Kind: 2}, counting(1), counting(1), counting(1)}},
		{3, 8, []api.Call{counting(0), counting(1), reading(2), {Obj: 1}, reading(1)}},
		{4, 7, []api.Call{counting(0), counting(1), counting(2), reading(3)}},
	} {
		for picks := range trial.Rows(q.n, q.picks) {
			checkPlay(t, q.n, q.calls, picks)
		}
	}
}

// 8.1 to 8.6: long plays of many threads.
func TestLongPlays(t *testing.T) {
	for seed := range 40 {
		next := trial.Numbers(uint64(seed))
		n := 1 + next(api.MaxThreads)
		var calls []api.Call
		for range next(api.MaxCalls + 1) {
			calls = append(calls, api.Call{Thread: next(n), Kind: next(5) / 3})
		}
		var picks []int
		for range next(4000) {
			picks = append(picks, next(n+1))
		}
		checkPlay(t, n, calls, picks)
	}
}

// checkPlay checks a play against the accesses of the chapter, and all that
// follows from them.
func checkPlay(t *testing.T, n int, calls []api.Call, picks []int) {
	t.Helper()
	r := play(t, n, calls, picks)
	if want := stepByStep(t, n, calls, picks); !trial.SameReport(r, want) {
		t.Fatalf("%v of %v: %v; want %v", picks, calls, r, want)
	}
	checkSums(t, n, calls, r)
	checkOneByOne(t, calls, r)
	if t.Failed() {
		t.Fatalf("%v of %v: %v", picks, calls, r)
	}
}

// stepByStep makes the accesses of the chapter in the turns of the threads.
func stepByStep(t *testing.T, n int, calls []api.Call, picks []int) api.Report {
	t.Helper()
	need := make([]int, len(calls))
	for i, c := range calls {
		need[i] = stepsOf(n, c)
	}
	turns, idle, e := pick.Turns(n, calls, need, picks)
	if e != api.OK {
		t.Fatal(e)
	}
	w := walk{
		report: api.Report{Words: make([]uint64, n), Ticks: len(turns), Idle: idle},
		found:  make([]uint64, len(calls)),
	}
	events := map[int]int{}
	for i, call := range turns {
		if _, begun := events[call]; !begun {
			events[call] = len(w.report.Events)
			w.report.Events = append(w.report.Events, api.Event{Call: call, Inv: i + 1})
		}
		w.step(events[call], calls[call], i+1)
	}
	return w.report
}

// stepsOf is how many steps a call needs.
func stepsOf(n int, c api.Call) int {
	switch {
	case refusal(c) != api.OK:
		return 1
	case c.Kind == 0:
		return 2
	}
	return n
}

// refusal is the error with which a call responds without an access.
func refusal(c api.Call) api.Errno {
	switch {
	case c.Obj != 0:
		return api.ErrObj
	case c.Kind != 0 && c.Kind != 1:
		return api.ErrKind
	}
	return api.OK
}

// walk is a play that is made step by step.
type walk struct {
	report api.Report
	found  []uint64 // what each call has read so far, in total
	writes []int    // the ticks of all W
}

// step makes the next step of an event.
func (w *walk) step(event int, c api.Call, tick int) {
	r := &w.report
	x := &r.Events[event]
	x.Steps++
	switch {
	case refusal(c) != api.OK:
		x.Answer.Err = refusal(c)
	case c.Kind == 0 && x.Steps == 2:
		r.Counts.Write++
		r.Words[c.Thread] = w.found[x.Call] + 1
		w.writes = append(w.writes, tick)
	case c.Kind == 0:
		r.Counts.Read++
		w.found[x.Call] = r.Words[c.Thread]
	default:
		r.Counts.Read++
		w.found[x.Call] += r.Words[x.Steps-1]
	}
	if x.Steps < stepsOf(len(r.Words), c) {
		return
	}
	x.Resp = tick
	x.Key = []int{2 * tick}
	if refusal(c) == api.OK && c.Kind == 1 {
		x.Answer.Val = w.found[x.Call]
		x.Key = []int{2 * w.moment(x), 2 * tick}
	}
}

// moment is the tick at which a read that responds takes effect.
func (w *walk) moment(x *api.Event) int {
	if x.Answer.Val == 0 {
		return x.Inv
	}
	return max(x.Inv, w.writes[x.Answer.Val-1])
}

// checkSums checks that no read misses a count that came before it, nor finds
// one that was not invoked (8.4), and how many steps are made (8.5).
func checkSums(t *testing.T, n int, calls []api.Call, r api.Report) {
	t.Helper()
	for _, x := range r.Events {
		c := calls[x.Call]
		if x.Steps > max(n, 2) {
			t.Errorf("%v: too many steps", x)
		}
		if refusal(c) != api.OK || c.Kind != 1 || x.Resp == 0 {
			continue
		}
		least, most := 0, 0
		for _, y := range r.Events {
			if d := calls[y.Call]; refusal(d) != api.OK || d.Kind != 0 {
				continue
			}
			if y.Resp != 0 && y.Resp < x.Inv {
				least++
			}
			if y.Inv < x.Resp {
				most++
			}
		}
		if x.Answer.Val < uint64(least) || x.Answer.Val > uint64(most) {
			t.Errorf("%v: not from %d to %d", x, least, most)
		}
	}
}

// checkOneByOne executes the operations in the order of their keys, at one
// moment each (8.6).
func checkOneByOne(t *testing.T, calls []api.Call, r api.Report) {
	t.Helper()
	var responded []api.Event
	var l [][]int
	for _, x := range r.Events {
		if x.Resp == 0 {
			continue
		}
		if !keys.Within(x.Key, x.Inv, x.Resp) {
			t.Errorf("%v: key at another time", x)
		}
		responded = append(responded, x)
		l = append(l, x.Key)
	}
	var number uint64
	for _, i := range keys.Order(l) {
		x := responded[i]
		c := calls[x.Call]
		want := api.Answer{Err: refusal(c)}
		if want.Err == api.OK && c.Kind == 0 {
			number++
		}
		if want.Err == api.OK && c.Kind == 1 {
			want.Val = number
		}
		if !reflect.DeepEqual(x.Answer, want) {
			t.Errorf("%v: want %v", x, want)
		}
	}
}

// W6: the place of a tally in the memory changes no event.
func TestElsewhere(t *testing.T) {
	calls := []api.Call{reading(0), counting(1), counting(1), reading(1)}
	picks := []int{0, 1, 1, 0, 1, 1, 1, 1}
	near := play(t, 2, calls, picks)
	away := slices.Clone(calls)
	for i := range away {
		away[i].Obj = 2
	}
	far, e := loom.Play(2, away, picks, tally.New(), loom.NewCells(1), tally.New())
	if e != api.OK || len(far.Events) != 4 || !trial.SameEvents(near.Events, far.Events) || near.Counts != far.Counts {
		t.Errorf("%v; %v; %v", e, near, far)
	}
	if !slices.Equal(near.Words, []uint64{0, 2}) || !slices.Equal(far.Words, []uint64{0, 0, 0, 0, 2}) {
		t.Errorf("%v; %v", near.Words, far.Words)
	}
}

// 8.3: of two tallies each one counts by itself.
func TestTwoTallies(t *testing.T) {
	calls := []api.Call{
		{Thread: 0, Obj: 0}, {Thread: 0, Obj: 1}, {Thread: 0, Obj: 0},
		{Thread: 1, Obj: 1, Kind: 1}, {Thread: 1, Obj: 0, Kind: 1},
	}
	picks := []int{1, 0, 0, 0, 0, 0, 0, 1, 1, 1}
	r, e := loom.Play(2, calls, picks, tally.New(), tally.New())
	if e != api.OK || len(r.Events) != 5 || !slices.Equal(r.Words, []uint64{2, 0, 1, 0}) {
		t.Fatal(e, r)
	}
	if x := r.Events[0]; x.Answer.Val != 0 || !slices.Equal(x.Key, []int{2, 16}) {
		t.Error(x)
	}
	if x := r.Events[4]; x.Answer.Val != 2 || !slices.Equal(x.Key, []int{18, 20}) {
		t.Error(x)
	}
}

// R4: the arguments stay what they are, and two reports share no memory.
func TestReportsAlone(t *testing.T) {
	calls := append(make([]api.Call, 0, 4), counting(0), reading(1))
	picks := append(make([]int, 0, 5), 0, 0, 1, 1)
	before, picksBefore := slices.Clone(calls[:4]), slices.Clone(picks[:5])
	first, second := play(t, 2, calls, picks), play(t, 2, calls, picks)
	if !slices.Equal(calls[:4], before) || !slices.Equal(picks[:5], picksBefore) {
		t.Error("Play changed its arguments")
	}
	first.Words[0] = 99
	first.Events[1].Key[0] = 99
	first.Events[0] = api.Event{}
	if want := stepByStep(t, 2, calls, picks); !trial.SameReport(second, want) {
		t.Errorf("%v; want %v", second, want)
	}
}
