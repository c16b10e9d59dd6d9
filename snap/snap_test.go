package snap_test

import (
	"math"
	"slices"
	"testing"

	"roundelay/api"
	"roundelay/loom"
	"roundelay/snap"
	"roundelay/trial"
)

const top = math.MaxUint64

// play returns the play of a snapshot, which must have no error.
func play(t *testing.T, n, p int, calls []api.Call, picks []int) api.Report {
	t.Helper()
	r, e := snap.Play(n, p, calls, picks)
	if e != api.OK {
		t.Fatalf("Play(%d, %d, %v, %v): %v", n, p, calls, picks, e)
	}
	return r
}

// updating is a call that updates.
func updating(thread int, value uint64) api.Call {
	return api.Call{Thread: thread, A: value}
}

// scanning is a call that scans.
func scanning(thread int) api.Call {
	return api.Call{Thread: thread, Kind: 1}
}

// wordsOf is how many words a snapshot has.
func wordsOf(n, p int) int {
	return n + n*p*(n+1)
}

// turns is a thread that is picked so many times.
func turns(thread, times int) []int {
	return slices.Repeat([]int{thread}, times)
}

// 15.2: the example of the chapter.
func TestExample(t *testing.T) {
	calls := []api.Call{updating(0, 5), scanning(1)}
	want := api.Report{
		Events: []api.Event{
			{Call: 0, Inv: 1, Resp: 8, Steps: 8, Key: []int{16}},
			{Call: 1, Inv: 9, Resp: 13, Steps: 5, Answer: api.Answer{List: []uint64{5, 0}}, Key: []int{20, 26}},
		},
		Words:  []uint64{2, 0, 5, 0, 0, 0, 0, 0},
		Counts: api.Counts{Read: 9, Write: 4},
		Ticks:  13,
	}
	r := play(t, 2, 1, calls, slices.Concat(turns(0, 8), turns(1, 5)))
	if !trial.SameReport(r, want) {
		t.Errorf("%v; want %v", r, want)
	}
}

// 15.2: the accesses of two updates, one after the other; the second one uses
// the next record, and has read the value of the first one.
func TestUpdateSteps(t *testing.T) {
	calls := []api.Call{updating(1, 5), updating(1, top)}
	words := make([]uint64, wordsOf(2, 2))
	writes := map[int][2]uint64{5: {8, 5}, 6: {9, 0}, 7: {10, 0}, 8: {1, 8}, 14: {11, top}, 15: {12, 0}, 16: {13, 5}, 17: {1, 11}}
	written := 0
	for i := range 20 {
		if w, ok := writes[i]; ok {
			words[w[0]] = w[1]
			written++
		}
		ticks := min(i, 17)
		r := play(t, 2, 2, calls, turns(1, i))
		if !slices.Equal(r.Words, words) || r.Ticks != ticks || r.Counts != (api.Counts{Read: ticks - written, Write: written}) {
			t.Errorf("after %d steps: %v; want %v", i, r, words)
		}
		var want []api.Event
		if i > 0 {
			want = append(want, api.Event{Inv: 1, Steps: min(i, 8)})
		}
		if i >= 8 {
			want[0].Resp, want[0].Key = 8, []int{16}
		}
		if i > 8 {
			want = append(want, api.Event{Call: 1, Inv: 9, Steps: ticks - 8})
		}
		if i >= 17 {
			want[1].Resp, want[1].Key = 17, []int{34}
		}
		if !trial.SameEvents(r.Events, want) {
			t.Errorf("after %d steps: %v; want %v", i, r.Events, want)
		}
	}
}

// 15.2, 15.3: a scan that finds only cells that are 0 ends with its second
// collect; another one ends with the last value that is read. There is no key
// before that.
func TestScanSteps(t *testing.T) {
	for _, q := range []struct {
		before []api.Call
		steps  int
		list   []uint64
	}{
		{nil, 6, []uint64{0, 0, 0}},
		{[]api.Call{updating(0, 4)}, 7, []uint64{4, 0, 0}},
		{[]api.Call{updating(1, 5)}, 7, []uint64{0, 5, 0}},
		{[]api.Call{updating(2, 6)}, 7, []uint64{0, 0, 6}},
		{[]api.Call{updating(0, 4), updating(2, 6)}, 8, []uint64{4, 0, 6}},
		{[]api.Call{updating(2, 6), updating(1, 5), updating(0, 4)}, 9, []uint64{4, 5, 6}},
		{[]api.Call{updating(1, 0), updating(1, 7)}, 7, []uint64{0, 7, 0}},
		{[]api.Call{updating(1, 7), updating(1, 0)}, 7, []uint64{0, 0, 0}},
	} {
		calls := append(q.before, scanning(0))
		start := whole(t, 3, 2, calls, q.before)
		for steps := 1; steps <= q.steps; steps++ {
			want := api.Event{Call: len(q.before), Inv: len(start) + 1, Steps: steps}
			if steps == q.steps {
				want.Resp = len(start) + steps
				want.Answer.List = q.list
				want.Key = []int{2 * (len(start) + 3), 2 * want.Resp}
			}
			x := play(t, 3, 2, calls, slices.Concat(start, turns(0, steps))).Events[len(q.before)]
			if !trial.SameEvents([]api.Event{x}, []api.Event{want}) {
				t.Errorf("after %v, %d steps: %v; want %v", q.before, steps, x, want)
			}
		}
	}
}

// whole is the picks with which the first ones of some calls are executed
// completely, one after the other.
func whole(t *testing.T, n, p int, calls, first []api.Call) []int {
	t.Helper()
	c := begin(t, n, p, calls)
	for _, call := range first {
		c.Finish(call.Thread)
	}
	return c.Picks
}

// begin is a course of a snapshot.
func begin(t *testing.T, n, p int, calls []api.Call) *trial.Course {
	t.Helper()
	c, ok := trial.NewCourse(n, calls, snap.New(p))
	if !ok {
		t.Fatalf("no play of %v", calls)
	}
	return c
}

// 15.2: a thread that moves once is waited for with another collect; when it
// moves again, its view is taken, which may be older than the cells.
func TestBorrow(t *testing.T) {
	calls := []api.Call{updating(1, 7), updating(1, 8), updating(1, 9), scanning(0)}
	// The updates make 8, 9 and 9 steps; their scans are present at 2 or more.
	start := turns(0, 2)
	once := slices.Concat(start, turns(1, 8), turns(0, 2))
	for _, q := range []struct {
		picks []int
		want  api.Event
	}{
		{slices.Concat(turns(1, 8), turns(0, 5)), event(9, 13, 5, []uint64{0, 7}, 10)},
		{slices.Concat(turns(1, 7), turns(0, 4)), event(8, 11, 4, []uint64{0, 0}, 9)},
		{slices.Concat(turns(1, 7), turns(0, 1), turns(1, 1), turns(0, 4)), event(8, 13, 5, []uint64{0, 7}, 10)},
		{slices.Concat(turns(1, 7), turns(0, 2), turns(1, 1), turns(0, 5)), event(8, 15, 7, []uint64{0, 7}, 12)},
		{slices.Concat(turns(1, 7), turns(0, 3), turns(1, 1), turns(0, 4)), event(8, 15, 7, []uint64{0, 7}, 12)},
		{slices.Concat(turns(1, 7), turns(0, 4), turns(1, 1)), event(8, 11, 4, []uint64{0, 0}, 9)},
		{slices.Concat(once, turns(0, 3)), event(1, 15, 7, []uint64{0, 7}, 12)},
		{slices.Concat(once, turns(1, 8), turns(0, 3)), event(1, 23, 7, []uint64{0, 7}, 12)},
		{slices.Concat(once, turns(1, 9), turns(0, 4)), event(1, 25, 8, []uint64{0, 7}, 14)},
		{slices.Concat(once, turns(1, 17), turns(0, 2), turns(1, 1), turns(0, 2)), event(1, 34, 8, []uint64{0, 7}, 14)},
		{slices.Concat(once, turns(1, 18), turns(0, 4)), event(1, 34, 8, []uint64{0, 8}, 23)},
		{slices.Concat(start, turns(1, 17), turns(0, 5)), event(1, 24, 7, []uint64{0, 8}, 21)},
		{slices.Concat(start, turns(1, 17), turns(0, 2), turns(1, 9), turns(0, 4)), event(1, 34, 8, []uint64{0, 8}, 23)},
	} {
		r := play(t, 2, 3, calls, q.picks)
		i := slices.IndexFunc(r.Events, func(x api.Event) bool { return x.Call == 3 })
		if i < 0 || !trial.SameEvents(r.Events[i:i+1], []api.Event{q.want}) {
			t.Errorf("%v: %v; want %v", q.picks, r.Events, q.want)
		}
	}
}

// event is that of the fourth call, a scan that responded, and was present at
// a moment.
func event(inv, resp, steps int, list []uint64, moment int) api.Event {
	return api.Event{Call: 3, Inv: inv, Resp: resp, Steps: steps, Answer: api.Answer{List: list}, Key: []int{2 * moment, 2 * resp}}
}

// 15.2: of two threads that both move again, the one with the smaller number
// lends its view, whichever was later; threads that move once each lend nothing.
func TestBorrowFromFirst(t *testing.T) {
	calls := []api.Call{scanning(1), updating(0, 3), updating(0, 4), updating(2, 5), updating(2, 6)}
	collect := turns(1, 3)
	for _, q := range []struct {
		picks []int
		list  []uint64
		steps int
	}{
		{slices.Concat(collect, turns(0, 11), collect, turns(2, 12), collect, collect, turns(1, 2)), []uint64{3, 0, 5}, 14},
		{slices.Concat(collect, turns(0, 11), turns(2, 12), collect, turns(2, 13), turns(0, 13), collect, turns(1, 3)), []uint64{3, 0, 6}, 12},
		{slices.Concat(collect, turns(0, 11), turns(2, 12), collect, turns(0, 13), turns(2, 13), collect, turns(1, 3)), []uint64{3, 0, 5}, 12},
		{slices.Concat(collect, turns(0, 11), turns(2, 12), collect, turns(2, 13), collect, turns(1, 3)), []uint64{3, 0, 5}, 12},
		{slices.Concat(collect, turns(2, 11), collect, turns(0, 12), turns(2, 13), collect, turns(1, 3)), []uint64{3, 0, 5}, 12},
	} {
		x := play(t, 3, 2, calls, q.picks).Events[0]
		if !slices.Equal(x.Answer.List, q.list) || x.Steps != q.steps || x.Resp != len(q.picks) {
			t.Errorf("%v: %v; want %v", q.picks, x, q.list)
		}
	}
}

// 15.3: a view that was borrowed has the moment of the scan by which it was
// found, also if that one borrowed it, too.
func TestBorrowedMoment(t *testing.T) {
	calls := []api.Call{scanning(0), updating(1, 1), updating(1, 2), updating(2, 3), updating(2, 4), updating(2, 5)}
	picks := slices.Concat(
		turns(0, 3),              // a collect, at 3
		turns(1, 11),             // 1 is in the cell, at 14
		turns(0, 3),              // thread 1 has moved
		turns(1, 3),              // the second update collects, at 20
		turns(2, 12),             // 3 is in the cell, at 32
		turns(1, 3),              // thread 2 has moved
		turns(2, 3), turns(2, 3), // the second update of thread 2 collects, first at 38
		turns(2, 2+4+1), // 4 is in the cell
		turns(1, 3),     // thread 1 finds that thread 2 has moved again
		turns(1, 3+4+1), // and borrows: 0, 1, 3
		turns(0, 3),     // so does thread 0
		turns(0, 3),
	)
	x := play(t, 3, 3, calls, picks).Events[0]
	if !slices.Equal(x.Answer.List, []uint64{0, 1, 3}) || !slices.Equal(x.Key, []int{2 * 38, 2 * len(picks)}) || x.Steps != 12 {
		t.Error(x)
	}
}

// 15.1, 15.2: each thread has its own cell and records, for the least and the
// greatest number of records, and for all numbers of threads; when all records
// are used, there is an error, which changes nothing.
func TestRecords(t *testing.T) {
	for n := 1; n <= api.MaxThreads; n++ {
		for _, p := range []int{1, 2, 3} {
			checkRecords(t, n, p)
		}
	}
	for _, p := range []int{63, 64} {
		checkRecords(t, 1, p)
		checkRecords(t, 3, p)
	}
}

// checkRecords lets thread after thread use all its records, and a scan follow.
func checkRecords(t *testing.T, n, p int) {
	t.Helper()
	var calls []api.Call
	words := make([]uint64, wordsOf(n, p))
	view := make([]uint64, n)
	for thread := range n {
		for i := range p {
			value := uint64(1000*thread + i + 1)
			calls = append(calls, updating(thread, value))
			record := n + (thread*p+i)*(n+1)
			words[thread], words[record] = uint64(record), value
			copy(words[record+1:], view)
			view[thread] = value
		}
		calls = append(calls, updating(thread, 9))
	}
	calls = append(calls, scanning(n-1))
	r := play(t, n, p, calls, whole(t, n, p, calls, calls))
	if !slices.Equal(r.Words, words) || r.Idle != 0 || len(r.Events) != len(calls) {
		t.Fatalf("%d threads, %d records: %v, %d idle; want %v", n, p, r.Words, r.Idle, words)
	}
	for i, x := range r.Events {
		thread, number := i/(p+1), i%(p+1)
		want, steps := api.Answer{}, 2*n+min(thread+min(number, 1), n)+n+2
		switch {
		case i == len(calls)-1:
			want.List, steps = view, 3*n
		case number == p:
			want.Err, steps = api.ErrFull, 1
		}
		if !trial.SameAnswer(x.Answer, want) || x.Resp == 0 || x.Steps != steps {
			t.Errorf("%d threads, %d records: %v; want %v, %d steps", n, p, x, want, steps)
		}
	}
}

// 15.5: a scan during which each other thread moves once makes n + 1 collects,
// and reads n numbers: the values, or the view of a thread that moves again.
func TestLongestScan(t *testing.T) {
	for n := 1; n <= api.MaxThreads; n++ {
		for _, again := range []bool{false, true} {
			for _, kind := range []int{0, 1} {
				checkLongestScan(t, n, kind, again && n > 1)
			}
		}
	}
}

// checkLongestScan checks how many steps the longest scan, or an update with
// it, makes.
func checkLongestScan(t *testing.T, n, kind int, again bool) {
	t.Helper()
	calls := []api.Call{updating(0, 77), {Kind: kind}}
	for thread := 1; thread < n; thread++ {
		calls = append(calls, updating(thread, uint64(thread)), updating(thread, 99))
	}
	c := begin(t, n, 2, calls)
	c.Finish(0)
	for thread := 1; thread < n; thread++ {
		c.Step(0, n)
		c.Finish(thread)
	}
	c.Step(0, n)
	if again {
		c.Finish(n - 1)
	}
	c.Finish(0)
	steps := n * (n + 2)
	if kind == 0 {
		steps += n + 2
	}
	r := play(t, n, 2, calls, c.Picks)
	i := slices.IndexFunc(r.Events, func(x api.Event) bool { return x.Call == 1 })
	if x := r.Events[i]; x.Steps != steps || x.Resp != len(c.Picks) {
		t.Errorf("%d threads, kind %d: %v; want %d steps", n, kind, x, steps)
	}
}

// 15.2: operations that respond with an error at once make no access.
func TestErrorsWithoutAccess(t *testing.T) {
	for _, q := range []struct {
		call api.Call
		want api.Errno
	}{
		{api.Call{Kind: 2}, api.ErrKind},
		{api.Call{Kind: -1}, api.ErrKind},
		{api.Call{Thread: 1, Kind: 3, A: 7}, api.ErrKind},
		{api.Call{Kind: math.MaxInt}, api.ErrKind},
		{api.Call{Kind: math.MinInt}, api.ErrKind},
		{api.Call{Obj: 1}, api.ErrObj},
		{api.Call{Obj: -1, Kind: 2}, api.ErrObj},
	} {
		want := api.Report{
			Events: []api.Event{{Inv: 1, Resp: 1, Steps: 1, Answer: api.Answer{Err: q.want}, Key: []int{2}}},
			Words:  make([]uint64, wordsOf(2, 2)),
			Ticks:  1,
			Idle:   1,
		}
		if r := play(t, 2, 2, []api.Call{q.call}, turns(q.call.Thread, 2)); !trial.SameReport(r, want) {
			t.Errorf("%v: %v; want %v", q, r, want)
		}
	}
	full := []api.Call{updating(0, 1), updating(0, 2), {Kind: 2}, scanning(0)}
	r := play(t, 1, 1, full, make([]int, 20))
	want := []api.Event{
		{Call: 0, Inv: 1, Resp: 5, Steps: 5, Key: []int{10}},
		{Call: 1, Inv: 6, Resp: 6, Steps: 1, Answer: api.Answer{Err: api.ErrFull}, Key: []int{12}},
		{Call: 2, Inv: 7, Resp: 7, Steps: 1, Answer: api.Answer{Err: api.ErrKind}, Key: []int{14}},
		{Call: 3, Inv: 8, Resp: 10, Steps: 3, Answer: api.Answer{List: []uint64{1}}, Key: []int{16, 20}},
	}
	if !trial.SameEvents(r.Events, want) || !slices.Equal(r.Words, []uint64{1, 1, 0}) || r.Counts != (api.Counts{Read: 5, Write: 3}) {
		t.Errorf("%v; want %v", r, want)
	}
}

// 15.2: operations ignore what they have no use for.
func TestIgnoredArguments(t *testing.T) {
	calls := []api.Call{{Kind: 0, A: 4, B: top, C: top}, {Kind: 1, A: top, B: top, C: top}}
	r := play(t, 1, 1, calls, make([]int, 8))
	if len(r.Events) != 2 || !trial.SameAnswer(r.Events[0].Answer, api.Answer{}) || !trial.SameAnswer(r.Events[1].Answer, api.Answer{List: []uint64{4}}) {
		t.Error(r)
	}
}

// 15.1: the errors of a play, in their order, and no report with them (R7).
func TestPlayErrors(t *testing.T) {
	for i, q := range trial.WrongPlays() {
		for _, p := range []int{1, 0} {
			if r, e := snap.Play(q.N, p, q.Calls, q.Picks); e != q.Want || !trial.SameReport(r, api.Report{}) {
				t.Errorf("%d, %d records: %v, %v; want %v", i, p, r, e, q.Want)
			}
		}
	}
	for _, p := range []int{0, -1, 65, 1 << 60, math.MaxInt, math.MinInt} {
		if r, e := snap.Play(2, p, []api.Call{updating(0, 1)}, []int{0}); e != api.ErrRange || !trial.SameReport(r, api.Report{}) {
			t.Errorf("%d records: %v, %v", p, r, e)
		}
	}
}

// 15.1: plays at the limits, and without calls.
func TestPlayLimits(t *testing.T) {
	for n := 1; n <= api.MaxThreads; n++ {
		for _, p := range []int{1, 2, 63, 64} {
			if r := play(t, n, p, nil, nil); !trial.SameReport(r, api.Report{Words: make([]uint64, wordsOf(n, p))}) {
				t.Errorf("%d threads, %d records: %v", n, p, r)
			}
		}
	}
	calls := slices.Repeat([]api.Call{updating(15, top), scanning(15)}, api.MaxCalls/2)
	r := play(t, 16, 64, calls, turns(15, api.MaxPicks))
	// 32 + 18 steps for the first update, and one more for the others; 33 for each scan.
	ticks := 50 + 63*51 + 436 + 500*33
	if len(r.Events) != 1000 || r.Ticks != ticks || r.Idle != api.MaxPicks-ticks || r.Words[15] != uint64(wordsOf(16, 64)-17) {
		t.Fatal(len(r.Events), r.Ticks, r.Idle, r.Words[15])
	}
	if x := r.Events[999]; len(x.Answer.List) != 16 || x.Answer.List[15] != top || !slices.Equal(x.Key, []int{2 * (x.Inv + 15), 2 * x.Resp}) {
		t.Error(x)
	}
}

// W6: the place of a snapshot in the memory changes no event; its cells contain
// the addresses of records in this memory. Of two snapshots, each one has its
// own records.
func TestElsewhere(t *testing.T) {
	calls := []api.Call{scanning(0), updating(1, 7), updating(1, 8), updating(1, 9), updating(0, 3), {Thread: 1}}
	picks := slices.Concat(turns(0, 2), turns(1, 8), turns(0, 2), turns(1, 9), turns(0, 7), turns(1, 3), turns(0, 20), turns(1, 20))
	near := play(t, 2, 3, calls, picks)
	away := slices.Clone(calls)
	for i := range away {
		away[i].Obj = 2
	}
	far, e := loom.Play(2, away, picks, snap.New(1), loom.NewCells(1), snap.New(3), snap.New(3))
	if e != api.OK || len(far.Events) != 6 || !trial.SameEvents(near.Events, far.Events) || near.Counts != far.Counts {
		t.Fatalf("%v; %v; %v", e, near, far)
	}
	begin, size := wordsOf(2, 1)+1, wordsOf(2, 3)
	for cell := range 2 {
		near.Words[cell] += uint64(begin)
	}
	if !slices.Equal(near.Words, far.Words[begin:begin+size]) {
		t.Errorf("%v; %v", near.Words, far.Words)
	}
	for i, w := range far.Words {
		if w != 0 && (i < begin || i >= begin+size) {
			t.Errorf("%d: %v", i, far.Words)
		}
	}
	both := []api.Call{updating(0, 1), {Obj: 1, A: 8}, {Obj: 1, Kind: 1}, scanning(0), updating(0, 2), {Obj: 1, A: 9}, {Obj: 1, A: 9}}
	r, e := loom.Play(1, both, make([]int, 40), snap.New(1), snap.New(2))
	if e != api.OK || len(r.Events) != 7 || !slices.Equal(r.Events[2].Answer.List, []uint64{8}) || !slices.Equal(r.Events[3].Answer.List, []uint64{1}) {
		t.Fatal(e, r)
	}
	if r.Events[4].Answer.Err != api.ErrFull || r.Events[5].Answer.Err != api.OK || r.Events[6].Answer.Err != api.ErrFull {
		t.Error(r)
	}
}

// R5: an object that is played again begins as it began before.
func TestAgain(t *testing.T) {
	object := snap.New(1)
	for range 2 {
		r, e := loom.Play(1, []api.Call{updating(0, 9), scanning(0)}, make([]int, 8), object)
		if e != api.OK || !slices.Equal(r.Words, []uint64{1, 9, 0}) || len(r.Events) != 2 || !slices.Equal(r.Events[1].Answer.List, []uint64{9}) {
			t.Error(e, r)
		}
	}
}

// R4: the arguments stay what they are, and two reports share no memory.
func TestReportsAlone(t *testing.T) {
	calls := append(make([]api.Call, 0, 4), updating(0, 3), scanning(0))
	picks := append(make([]int, 0, 9), make([]int, 8)...)
	before, picksBefore := slices.Clone(calls[:4]), slices.Clone(picks[:9])
	first, second := play(t, 1, 1, calls, picks), play(t, 1, 1, calls, picks)
	if !slices.Equal(calls[:4], before) || !slices.Equal(picks[:9], picksBefore) {
		t.Error("Play changed its arguments")
	}
	first.Words[0] = 99
	first.Events[1].Key[0] = 99
	first.Events[1].Answer.List[0] = 99
	first.Events[0] = api.Event{}
	if !trial.SameReport(second, play(t, 1, 1, calls, picks)) {
		t.Error("two reports share memory:", second)
	}
}
