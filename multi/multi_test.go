package multi_test

import (
	"math"
	"slices"
	"testing"

	"roundelay/api"
	"roundelay/loom"
	"roundelay/multi"
	"roundelay/trial"
)

const top = math.MaxUint64

// play returns the play of a snapshot, which must have no error.
func play(t *testing.T, n, m, q int, calls []api.Call, picks []int) api.Report {
	t.Helper()
	r, e := multi.Play(n, m, q, calls, picks)
	if e != api.OK {
		t.Fatalf("Play(%d, %d, %d, %v, %v): %v", n, m, q, calls, picks, e)
	}
	return r
}

// updating is a call that updates a component.
func updating(thread, component int, value uint64) api.Call {
	return api.Call{Thread: thread, A: uint64(component), B: value}
}

// scanning is a call that scans.
func scanning(thread int) api.Call {
	return api.Call{Thread: thread, Kind: 1}
}

// wordsOf is how many words a snapshot has.
func wordsOf(n, m, q int) int {
	return m + n*q*(m+1)
}

// turns is a thread that is picked so many times.
func turns(thread, times int) []int {
	return slices.Repeat([]int{thread}, times)
}

// begin is a course of a snapshot.
func begin(t *testing.T, n, m, q int, calls []api.Call) *trial.Course {
	t.Helper()
	c, ok := trial.NewCourse(n, calls, multi.New(m, q))
	if !ok {
		t.Fatalf("no play of %v", calls)
	}
	return c
}

// whole is the picks with which the first ones of some calls are executed
// completely, one after the other.
func whole(t *testing.T, n, m, q int, calls, first []api.Call) []int {
	t.Helper()
	c := begin(t, n, m, q, calls)
	for _, call := range first {
		c.Finish(call.Thread)
	}
	return c.Picks
}

// 16.2: the example of the chapter.
func TestExample(t *testing.T) {
	calls := []api.Call{updating(0, 0, 5), updating(1, 0, 6), scanning(0)}
	want := api.Report{
		Events: []api.Event{
			{Call: 0, Inv: 1, Resp: 8, Steps: 8, Key: []int{16}},
			{Call: 1, Inv: 9, Resp: 17, Steps: 9, Key: []int{34}},
			{Call: 2, Inv: 18, Resp: 22, Steps: 5, Answer: api.Answer{List: []uint64{6, 0}}, Key: []int{38, 44}},
		},
		Words:  []uint64{5, 0, 5, 0, 0, 6, 5, 0},
		Counts: api.Counts{Read: 14, Write: 8},
		Ticks:  22,
	}
	r := play(t, 2, 2, 1, calls, slices.Concat(turns(0, 8), turns(1, 9), turns(0, 5)))
	if !trial.SameReport(r, want) {
		t.Errorf("%v; want %v", r, want)
	}
}

// 16.2: the accesses of two updates, one after the other; the second one uses
// the next record, and has read the value of the first one.
func TestUpdateSteps(t *testing.T) {
	calls := []api.Call{updating(1, 0, 5), updating(1, 2, top)}
	words := make([]uint64, wordsOf(2, 3, 2))
	writes := map[int][2]uint64{
		7: {11, 5}, 8: {12, 0}, 9: {13, 0}, 10: {14, 0}, 11: {0, 11},
		19: {15, top}, 20: {16, 5}, 21: {17, 0}, 22: {18, 0}, 23: {2, 15},
	}
	written := 0
	for i := range 26 {
		if w, ok := writes[i]; ok {
			words[w[0]] = w[1]
			written++
		}
		ticks := min(i, 23)
		r := play(t, 2, 3, 2, calls, turns(1, i))
		if !slices.Equal(r.Words, words) || r.Ticks != ticks || r.Counts != (api.Counts{Read: ticks - written, Write: written}) {
			t.Errorf("after %d steps: %v; want %v", i, r, words)
		}
		var want []api.Event
		if i > 0 {
			want = append(want, api.Event{Inv: 1, Steps: min(i, 11)})
		}
		if i >= 11 {
			want[0].Resp, want[0].Key = 11, []int{22}
		}
		if i > 11 {
			want = append(want, api.Event{Call: 1, Inv: 12, Steps: ticks - 11})
		}
		if i >= 23 {
			want[1].Resp, want[1].Key = 23, []int{46}
		}
		if !trial.SameEvents(r.Events, want) {
			t.Errorf("after %d steps: %v; want %v", i, r.Events, want)
		}
	}
}

// 16.2, 16.3: a scan that finds only cells that are 0 ends with its second
// collect; another one ends with the last value that is read. There is no key
// before that.
func TestScanSteps(t *testing.T) {
	for _, q := range []struct {
		before []api.Call
		steps  int
		list   []uint64
	}{
		{nil, 6, []uint64{0, 0, 0}},
		{[]api.Call{updating(1, 0, 4)}, 7, []uint64{4, 0, 0}},
		{[]api.Call{updating(0, 1, 5)}, 7, []uint64{0, 5, 0}},
		{[]api.Call{updating(1, 2, 6)}, 7, []uint64{0, 0, 6}},
		{[]api.Call{updating(1, 0, 4), updating(1, 2, 6)}, 8, []uint64{4, 0, 6}},
		{[]api.Call{updating(0, 2, 6), updating(1, 1, 5), updating(1, 0, 4)}, 9, []uint64{4, 5, 6}},
		{[]api.Call{updating(1, 1, 5), updating(0, 1, 7)}, 7, []uint64{0, 7, 0}},
		{[]api.Call{updating(0, 1, 7), updating(1, 1, 0)}, 7, []uint64{0, 0, 0}},
	} {
		calls := append(q.before, scanning(0))
		start := whole(t, 2, 3, 2, calls, q.before)
		for steps := 1; steps <= q.steps; steps++ {
			want := api.Event{Call: len(q.before), Inv: len(start) + 1, Steps: steps}
			if steps == q.steps {
				want.Resp = len(start) + steps
				want.Answer.List = q.list
				want.Key = []int{2 * (len(start) + 3), 2 * want.Resp}
			}
			x := play(t, 2, 3, 2, calls, slices.Concat(start, turns(0, steps))).Events[len(q.before)]
			if !trial.SameEvents([]api.Event{x}, []api.Event{want}) {
				t.Errorf("after %v, %d steps: %v; want %v", q.before, steps, x, want)
			}
		}
	}
}

// 16.2, 16.3: a scan during which other threads update: a record of each thread
// is noted; with a further one of a thread that was noted, the view of the later
// one is taken, in whichever components the two are.
func TestBorrow(t *testing.T) {
	for _, q := range []struct {
		updates [][]api.Call // those after each collect of the scan
		list    []uint64
		steps   int
		from    int // the update whose view is taken, -1 if none is
	}{
		{[][]api.Call{{}}, []uint64{0, 0}, 4, -1},
		{[][]api.Call{{updating(1, 0, 7)}, {}}, []uint64{7, 0}, 7, -1},
		{[][]api.Call{{updating(1, 1, 7)}, {updating(2, 1, 8)}, {updating(3, 0, 9)}, {}}, []uint64{9, 8}, 12, -1},
		{[][]api.Call{{updating(1, 0, 7), updating(2, 1, 8)}, {}}, []uint64{7, 8}, 8, -1},
		// A record that was replaced before it was seen is not noted.
		{[][]api.Call{{updating(1, 0, 7), updating(2, 0, 8)}, {updating(1, 1, 9)}, {}}, []uint64{8, 9}, 10, -1},
		{[][]api.Call{{updating(1, 0, 7), updating(1, 0, 8)}, {}}, []uint64{8, 0}, 7, -1},
		// Two records of one thread in one collect: the later one is in either component.
		{[][]api.Call{{updating(1, 0, 7), updating(1, 1, 8)}}, []uint64{7, 0}, 6, 1},
		{[][]api.Call{{updating(1, 1, 7), updating(1, 0, 8)}}, []uint64{0, 7}, 6, 1},
		{[][]api.Call{{updating(1, 0, 5), updating(1, 1, 6), updating(1, 0, 7)}}, []uint64{5, 6}, 6, 2},
		// In two collects.
		{[][]api.Call{{updating(1, 0, 7)}, {updating(1, 0, 8)}}, []uint64{7, 0}, 8, 1},
		{[][]api.Call{{updating(1, 0, 7)}, {updating(1, 1, 8)}}, []uint64{7, 0}, 8, 1},
		{[][]api.Call{{updating(1, 1, 7)}, {updating(1, 0, 8)}}, []uint64{0, 7}, 8, 1},
		{[][]api.Call{{updating(1, 1, 7)}, {updating(2, 1, 8)}, {updating(1, 1, 9)}}, []uint64{0, 8}, 10, 2},
		{[][]api.Call{{updating(1, 1, 7), updating(2, 0, 8)}, {updating(2, 1, 9)}}, []uint64{8, 7}, 8, 2},
		// Several threads: that of the first component lends its view.
		{[][]api.Call{{updating(1, 0, 5), updating(2, 1, 6)}, {updating(1, 0, 7), updating(2, 1, 8)}}, []uint64{5, 6}, 8, 2},
		{[][]api.Call{{updating(1, 0, 5), updating(2, 1, 6)}, {updating(1, 1, 7), updating(2, 0, 8)}}, []uint64{5, 7}, 8, 3},
		{[][]api.Call{{updating(1, 0, 5), updating(2, 1, 6)}, {updating(2, 0, 7), updating(1, 1, 8)}}, []uint64{5, 6}, 8, 2},
		// A thread that is noted at the first component, and another one that was noted before.
		{[][]api.Call{{updating(2, 1, 6)}, {updating(1, 0, 7), updating(2, 1, 8)}}, []uint64{7, 6}, 8, 2},
	} {
		checkBorrow(t, q.updates, q.list, q.steps, q.from)
	}
}

// checkBorrow checks a scan of two components during which these updates are
// executed.
func checkBorrow(t *testing.T, updates [][]api.Call, list []uint64, steps, from int) {
	t.Helper()
	calls := append(slices.Concat(updates...), scanning(0))
	c := begin(t, 4, 2, 3, calls)
	c.Step(0, 2)
	for i, l := range updates {
		if i > 0 {
			c.Step(0, 2)
		}
		for _, call := range l {
			c.Finish(call.Thread)
		}
	}
	c.Finish(0)
	r := play(t, 4, 2, 3, calls, c.Picks)
	x := r.Events[0]
	var collects []int
	for i, p := range c.Picks {
		if p == 0 {
			collects = append(collects, i+1)
		}
	}
	// The moment is the end of the collect before the last one, or that of the
	// first collect of the update whose view was taken.
	moment := collects[2*len(updates)-1]
	if from >= 0 {
		moment = r.Events[1+from].Inv + 1
	}
	want := api.Event{Call: len(calls) - 1, Inv: 1, Resp: len(c.Picks), Steps: steps, Answer: api.Answer{List: list}, Key: []int{2 * moment, 2 * len(c.Picks)}}
	if !trial.SameEvents([]api.Event{x}, []api.Event{want}) {
		t.Errorf("%v: %v; want %v", updates, x, want)
	}
}

// 16.3: a view that was borrowed has the moment of the scan by which it was
// found, also if that one borrowed it, too.
func TestBorrowedMoment(t *testing.T) {
	calls := []api.Call{scanning(0), updating(1, 0, 1), updating(1, 0, 2), updating(2, 1, 3), updating(2, 1, 4)}
	c := begin(t, 3, 2, 2, calls)
	c.Step(0, 2)
	c.Finish(1)
	c.Step(0, 2) // a record of thread 1 is noted
	c.Step(1, 2)
	c.Finish(2)
	c.Step(1, 2) // a record of thread 2 is noted by thread 1
	moment := len(c.Picks) + 2
	c.Finish(2)
	c.Finish(1)
	c.Finish(0)
	want := api.Event{Inv: 1, Resp: len(c.Picks), Steps: 8, Answer: api.Answer{List: []uint64{1, 3}}, Key: []int{2 * moment, 2 * len(c.Picks)}}
	r := play(t, 3, 2, 2, calls, c.Picks)
	if !trial.SameEvents(r.Events[:1], []api.Event{want}) || r.Events[2].Steps != 3*2+2+3+1 {
		t.Errorf("%v; want %v", r.Events, want)
	}
}

// 16.1, 16.2: each component has its own cell, and each thread its own records,
// for the least and the greatest numbers of all; when all records are used,
// there is an error, which changes nothing.
func TestRecords(t *testing.T) {
	for n := 1; n <= api.MaxThreads; n++ {
		for _, m := range []int{1, 2, 3, 15, 16} {
			checkRecords(t, n, m, 2)
		}
	}
	for _, q := range []int{1, 63, 64} {
		checkRecords(t, 1, 3, q)
		checkRecords(t, 3, 2, q)
	}
}

// checkRecords lets thread after thread use all its records, and a scan follow.
func checkRecords(t *testing.T, n, m, q int) {
	t.Helper()
	var calls []api.Call
	var steps []int
	words := make([]uint64, wordsOf(n, m, q))
	view := make([]uint64, m)
	set := map[int]bool{}
	for thread := range n {
		for i := range q {
			component, value := (3*thread+i)%m, uint64(1000*thread+i+1)
			calls = append(calls, updating(thread, component, value))
			steps = append(steps, 2*m+len(set)+m+2)
			record := m + (thread*q+i)*(m+1)
			words[component], words[record] = uint64(record), value
			copy(words[record+1:], view)
			view[component], set[component] = value, true
		}
		calls = append(calls, updating(thread, 0, 9))
		steps = append(steps, 1)
	}
	calls = append(calls, scanning(n-1))
	steps = append(steps, 2*m+len(set))
	r := play(t, n, m, q, calls, whole(t, n, m, q, calls, calls))
	if !slices.Equal(r.Words, words) || r.Idle != 0 || len(r.Events) != len(calls) {
		t.Fatalf("%d threads, %d components, %d records: %v, %d idle; want %v", n, m, q, r.Words, r.Idle, words)
	}
	for i, x := range r.Events {
		want := api.Answer{}
		switch {
		case i == len(calls)-1:
			want.List = view
		case i%(q+1) == q:
			want.Err = api.ErrFull
		}
		if !trial.SameAnswer(x.Answer, want) || x.Resp == 0 || x.Steps != steps[i] {
			t.Errorf("%d threads, %d components, %d records: %v; want %v, %d steps", n, m, q, x, want, steps[i])
		}
	}
}

// 16.5: a scan during which each other thread updates once makes n + 1 collects,
// and reads m numbers: the values, or the view of a thread that updates again.
func TestLongestScan(t *testing.T) {
	for n := 1; n <= api.MaxThreads; n++ {
		for _, m := range []int{1, 2, 5, 16} {
			for _, again := range []bool{false, true} {
				checkLongestScan(t, n, m, scanning(0), again && n > 1)
				checkLongestScan(t, n, m, updating(0, m-1, 3), again && n > 1)
			}
		}
	}
}

// checkLongestScan checks how many steps the longest scan, or an update with
// it, makes.
func checkLongestScan(t *testing.T, n, m int, slow api.Call, again bool) {
	t.Helper()
	var calls []api.Call
	for component := range m {
		calls = append(calls, updating(0, component, 77))
	}
	calls = append(calls, slow)
	for thread := 1; thread < n; thread++ {
		calls = append(calls, updating(thread, thread%m, 88), updating(thread, 0, 99))
	}
	c := begin(t, n, m, m+1, calls)
	for range m {
		c.Finish(0)
	}
	for thread := 1; thread < n; thread++ {
		c.Step(0, m)
		c.Finish(thread)
	}
	c.Step(0, m)
	if again {
		c.Finish(1)
	}
	c.Finish(0)
	steps := m * (n + 2)
	if slow.Kind == 0 {
		steps += m + 2
	}
	r := play(t, n, m, m+1, calls, c.Picks)
	if x := r.Events[m]; x.Call != m || x.Steps != steps || x.Resp != len(c.Picks) {
		t.Errorf("%d threads, %d components, kind %d: %v; want %d steps", n, m, slow.Kind, x, steps)
	}
}

// 16.2: operations that respond with an error at once make no access.
func TestErrorsWithoutAccess(t *testing.T) {
	for _, q := range []struct {
		call api.Call
		want api.Errno
	}{
		{updating(0, 3, 1), api.ErrRange},
		{updating(1, 4, 1), api.ErrRange},
		{api.Call{A: 1 << 32}, api.ErrRange},
		{api.Call{A: 1 << 63}, api.ErrRange},
		{api.Call{A: top}, api.ErrRange},
		{api.Call{Kind: 2}, api.ErrKind},
		{api.Call{Kind: 2, A: 3}, api.ErrKind},
		{api.Call{Thread: 1, Kind: 3, A: top}, api.ErrKind},
		{api.Call{Kind: -1}, api.ErrKind},
		{api.Call{Kind: math.MaxInt}, api.ErrKind},
		{api.Call{Kind: math.MinInt}, api.ErrKind},
		{api.Call{Obj: 1}, api.ErrObj},
		{api.Call{Obj: -1, Kind: 2}, api.ErrObj},
	} {
		want := api.Report{
			Events: []api.Event{{Inv: 1, Resp: 1, Steps: 1, Answer: api.Answer{Err: q.want}, Key: []int{2}}},
			Words:  make([]uint64, wordsOf(2, 3, 2)),
			Ticks:  1,
			Idle:   1,
		}
		if r := play(t, 2, 3, 2, []api.Call{q.call}, turns(q.call.Thread, 2)); !trial.SameReport(r, want) {
			t.Errorf("%v: %v; want %v", q, r, want)
		}
	}
}

// 16.2: a wrong component precedes that all records are used, and uses none.
func TestErrorsWhenFull(t *testing.T) {
	calls := []api.Call{updating(0, 1, 8), updating(0, 0, 1), updating(0, 0, 2), updating(0, 1, 3), {Kind: 2}, scanning(0)}
	want := []api.Event{
		{Call: 0, Inv: 1, Resp: 1, Steps: 1, Answer: api.Answer{Err: api.ErrRange}, Key: []int{2}},
		{Call: 1, Inv: 2, Resp: 6, Steps: 5, Key: []int{12}},
		{Call: 2, Inv: 7, Resp: 7, Steps: 1, Answer: api.Answer{Err: api.ErrFull}, Key: []int{14}},
		{Call: 3, Inv: 8, Resp: 8, Steps: 1, Answer: api.Answer{Err: api.ErrRange}, Key: []int{16}},
		{Call: 4, Inv: 9, Resp: 9, Steps: 1, Answer: api.Answer{Err: api.ErrKind}, Key: []int{18}},
		{Call: 5, Inv: 10, Resp: 12, Steps: 3, Answer: api.Answer{List: []uint64{1}}, Key: []int{20, 24}},
	}
	r := play(t, 1, 1, 1, calls, make([]int, 20))
	if !trial.SameEvents(r.Events, want) || !slices.Equal(r.Words, []uint64{1, 1, 0}) || r.Counts != (api.Counts{Read: 5, Write: 3}) {
		t.Errorf("%v; want %v", r, want)
	}
}

// 16.2: operations ignore what they have no use for.
func TestIgnoredArguments(t *testing.T) {
	calls := []api.Call{{Kind: 0, A: 0, B: 4, C: top}, {Kind: 1, A: top, B: top, C: top}}
	r := play(t, 1, 1, 1, calls, make([]int, 8))
	if len(r.Events) != 2 || !trial.SameAnswer(r.Events[0].Answer, api.Answer{}) || !trial.SameAnswer(r.Events[1].Answer, api.Answer{List: []uint64{4}}) {
		t.Error(r)
	}
}

// 16.1: the errors of a play, in their order, and no report with them (R7).
func TestPlayErrors(t *testing.T) {
	for i, w := range trial.WrongPlays() {
		for _, q := range []int{1, 0} {
			if r, e := multi.Play(w.N, q, q, w.Calls, w.Picks); e != w.Want || !trial.SameReport(r, api.Report{}) {
				t.Errorf("%d, %d components and records: %v, %v; want %v", i, q, r, e, w.Want)
			}
		}
	}
	calls := []api.Call{updating(0, 0, 1)}
	for _, wrong := range []int{0, -1, 1 << 60, math.MaxInt, math.MinInt} {
		for _, q := range [][2]int{{wrong, 1}, {1, wrong}, {wrong, wrong}, {17, 1}, {1, 65}, {17, 64}, {16, 65}} {
			if r, e := multi.Play(2, q[0], q[1], calls, []int{0}); e != api.ErrRange || !trial.SameReport(r, api.Report{}) {
				t.Errorf("%v: %v, %v", q, r, e)
			}
		}
	}
}

// 16.1: plays at the limits, and without calls.
func TestPlayLimits(t *testing.T) {
	for n := 1; n <= api.MaxThreads; n++ {
		for m := 1; m <= 16; m++ {
			for _, q := range []int{1, 2, 63, 64} {
				if r := play(t, n, m, q, nil, nil); !trial.SameReport(r, api.Report{Words: make([]uint64, wordsOf(n, m, q))}) {
					t.Errorf("%d threads, %d components, %d records: %v", n, m, q, r)
				}
			}
		}
	}
	calls := slices.Repeat([]api.Call{updating(15, 15, top), scanning(15)}, api.MaxCalls/2)
	r := play(t, 16, 16, 64, calls, turns(15, api.MaxPicks))
	// 32 + 18 steps for the first update, and one more for the others; 33 for each scan.
	ticks := 50 + 63*51 + 436 + 500*33
	if len(r.Events) != 1000 || r.Ticks != ticks || r.Idle != api.MaxPicks-ticks || r.Words[15] != uint64(wordsOf(16, 16, 64)-17) {
		t.Fatal(len(r.Events), r.Ticks, r.Idle, r.Words[15])
	}
	if x := r.Events[999]; len(x.Answer.List) != 16 || x.Answer.List[15] != top || !slices.Equal(x.Key, []int{2 * (x.Inv + 15), 2 * x.Resp}) {
		t.Error(x)
	}
}

// W6: the place of a snapshot in the memory changes no event; its cells contain
// the addresses of records in this memory. Of two snapshots, each one has its
// own records.
func TestElsewhere(t *testing.T) {
	calls := []api.Call{scanning(0), updating(1, 1, 7), updating(1, 0, 8), updating(1, 1, 9), updating(0, 1, 3), {Thread: 1}}
	picks := slices.Concat(turns(0, 2), turns(1, 8), turns(0, 2), turns(1, 9), turns(0, 7), turns(1, 3), turns(0, 20), turns(1, 20))
	near := play(t, 2, 2, 4, calls, picks)
	away := slices.Clone(calls)
	for i := range away {
		away[i].Obj = 2
	}
	far, e := loom.Play(2, away, picks, multi.New(3, 1), loom.NewCells(1), multi.New(2, 4), multi.New(2, 4))
	if e != api.OK || len(far.Events) != 6 || !trial.SameEvents(near.Events, far.Events) || near.Counts != far.Counts {
		t.Fatalf("%v; %v; %v", e, near, far)
	}
	start, size := wordsOf(2, 3, 1)+1, wordsOf(2, 2, 4)
	for cell := range 2 {
		near.Words[cell] += uint64(start)
	}
	if !slices.Equal(near.Words, far.Words[start:start+size]) {
		t.Errorf("%v; %v", near.Words, far.Words)
	}
	for i, w := range far.Words {
		if w != 0 && (i < start || i >= start+size) {
			t.Errorf("%d: %v", i, far.Words)
		}
	}
	both := []api.Call{updating(0, 0, 1), {Obj: 1, A: 1, B: 8}, {Obj: 1, Kind: 1}, scanning(0), updating(0, 0, 2), {Obj: 1}, {Obj: 1}, {Obj: 1, A: 2}}
	r, e := loom.Play(1, both, make([]int, 60), multi.New(1, 1), multi.New(2, 2))
	if e != api.OK || len(r.Events) != 8 || !slices.Equal(r.Events[2].Answer.List, []uint64{0, 8}) || !slices.Equal(r.Events[3].Answer.List, []uint64{1}) {
		t.Fatal(e, r)
	}
	for i, want := range []api.Errno{api.ErrFull, api.OK, api.ErrFull, api.ErrRange} {
		if x := r.Events[4+i]; x.Answer.Err != want {
			t.Errorf("%v: want %v", x, want)
		}
	}
}

// R5: an object that is played again begins as it began before.
func TestAgain(t *testing.T) {
	object := multi.New(1, 1)
	for range 2 {
		r, e := loom.Play(1, []api.Call{updating(0, 0, 9), scanning(0)}, make([]int, 8), object)
		if e != api.OK || !slices.Equal(r.Words, []uint64{1, 9, 0}) || len(r.Events) != 2 || !slices.Equal(r.Events[1].Answer.List, []uint64{9}) {
			t.Error(e, r)
		}
	}
}

// R4: the arguments stay what they are, and two reports share no memory.
func TestReportsAlone(t *testing.T) {
	calls := append(make([]api.Call, 0, 4), updating(0, 0, 3), scanning(0))
	picks := append(make([]int, 0, 9), make([]int, 8)...)
	before, picksBefore := slices.Clone(calls[:4]), slices.Clone(picks[:9])
	first, second := play(t, 1, 1, 1, calls, picks), play(t, 1, 1, 1, calls, picks)
	if !slices.Equal(calls[:4], before) || !slices.Equal(picks[:9], picksBefore) {
		t.Error("Play changed its arguments")
	}
	first.Words[0] = 99
	first.Events[1].Key[0] = 99
	first.Events[1].Answer.List[0] = 99
	first.Events[0] = api.Event{}
	if !trial.SameReport(second, play(t, 1, 1, 1, calls, picks)) {
		t.Error("two reports share memory:", second)
	}
}
