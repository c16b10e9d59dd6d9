package queue_test

import (
	"math"
	"slices"
	"testing"

	"roundelay/api"
	"roundelay/loom"
	"roundelay/queue"
	"roundelay/trial"
)

const top = math.MaxUint64

// play returns the play of a queue, which must have no error.
func play(t *testing.T, n, k, a int, calls []api.Call, picks []int) api.Report {
	t.Helper()
	r, e := queue.Play(n, k, a, calls, picks)
	if e != api.OK {
		t.Fatalf("Play(%d, %d, %d, %v, %v): %v", n, k, a, calls, brief(picks), e)
	}
	return r
}

// brief is the picks that are worth being told.
func brief(picks []int) []int {
	return picks[:min(len(picks), 100)]
}

// putting is a call that puts a value.
func putting(thread int, a uint64) api.Call {
	return api.Call{Thread: thread, Kind: 0, A: a}
}

// taking is a call that takes a value.
func taking(thread int) api.Call {
	return api.Call{Thread: thread, Kind: 1}
}

// turns is a thread that is picked so many times.
func turns(thread, times int) []int {
	return slices.Repeat([]int{thread}, times)
}

// threads is the list of all threads.
func threads(n int) []int {
	var l []int
	for p := range n {
		l = append(l, p)
	}
	return l
}

// begin is a course of a queue.
func begin(t *testing.T, n, k, a int, calls []api.Call) *trial.Course {
	t.Helper()
	c, ok := trial.NewCourse(n, calls, queue.New(k, a))
	if !ok {
		t.Fatalf("no play of %v", calls)
	}
	return c
}

// step is an access that is expected: its kind, and, if it changes a word, the
// address and the new word.
type step struct {
	kind rune
	at   int
	now  uint64
}

// reads is so many accesses R.
func reads(times int) []step {
	return slices.Repeat([]step{{kind: 'R'}}, times)
}

// writes is an access W.
func writes(at int, now uint64) []step {
	return []step{{'W', at, now}}
}

// swaps is an access C that succeeds, and fails is one that does not.
func swaps(at int, now uint64) []step {
	return []step{{'C', at, now}}
}

var fails = []step{{kind: 'C'}}

// checkSteps checks the steps that a thread makes after other picks, one by one,
// and returns the last report.
func checkSteps(t *testing.T, n, k, a int, calls []api.Call, before []int, thread int, steps ...[]step) api.Report {
	t.Helper()
	r := play(t, n, k, a, calls, before)
	for i, s := range slices.Concat(steps...) {
		after := play(t, n, k, a, calls, append(slices.Clone(before), turns(thread, i+1)...))
		switch s.kind {
		case 'R':
			r.Counts.Read++
		case 'W':
			r.Counts.Write++
		case 'C':
			r.Counts.Swap++
		}
		if s.at != 0 || s.now != 0 {
			r.Words[s.at] = s.now
		}
		if after.Counts != r.Counts || !slices.Equal(after.Words, r.Words) {
			t.Fatalf("the step %d: %v, %v; want %c, %v, %v", i+1, after.Counts, after.Words, s.kind, r.Counts, r.Words)
		}
		r = after
	}
	return r
}

// checkEvents checks the events of a report.
func checkEvents(t *testing.T, r api.Report, want ...api.Event) {
	t.Helper()
	if !trial.SameEvents(r.Events, want) {
		t.Errorf("%v; want %v", r.Events, want)
	}
}

// 22.2, 22.3: the example of the chapter, and then the value is taken, one
// access after the other.
func TestDirect(t *testing.T) {
	calls := []api.Call{putting(0, 5), taking(0), taking(0)}
	put := [][]step{
		reads(2),
		writes(at(1, 2, mark), 3), writes(at(1, 2, value), 1<<32+5), writes(at(1, 2, next), stamp(1, 0)), writes(at(1, 2, taker), stamp(1, 0)),
		reads(2), swaps(at(1, 1, next), ref(2, 1)),
		reads(3), swaps(1, ref(2, 1)),
	}
	r := checkSteps(t, 1, 1, 1, calls, nil, 0, put...)
	first := api.Event{Inv: 1, Resp: 13, Steps: 13, Key: []int{18}}
	checkEvents(t, r, first)
	take := [][]step{
		reads(6), swaps(at(1, 1, taker), 33),
		reads(3), swaps(0, ref(2, 1)), swaps(at(1, 1, mark), 0),
	}
	r = checkSteps(t, 1, 1, 1, calls, turns(0, 13), 0, take...)
	second := api.Event{Call: 1, Inv: 14, Resp: 25, Steps: 12, Answer: api.Answer{Val: 5}, Key: []int{40}}
	checkEvents(t, r, first, second)
	r = checkSteps(t, 1, 1, 1, calls, turns(0, 25), 0, reads(5))
	third := api.Event{Call: 2, Inv: 26, Resp: 30, Steps: 5, Answer: api.Answer{Err: api.ErrEmpty}, Key: []int{58}}
	checkEvents(t, r, first, second, third)
}

// 22.2, 22.3: the same without attempts: each operation announces itself.
func TestAnnounced(t *testing.T) {
	calls := []api.Call{putting(0, 5), taking(0), taking(0)}
	put := [][]step{
		reads(2),
		writes(at(1, 2, mark), 3), writes(at(1, 2, value), 1<<32+5), writes(at(1, 2, next), stamp(1, 0)), writes(at(1, 2, taker), stamp(1, 0)),
		reads(1), writes(2, descriptor(pending, ref(2, 1), 1)), reads(1),
		reads(4), swaps(at(1, 1, next), ref(2, 1)),
		reads(3), swaps(2, descriptor(0, ref(2, 1), 1)), swaps(1, ref(2, 1)),
	}
	r := checkSteps(t, 1, 1, 0, calls, nil, 0, put...)
	first := api.Event{Inv: 1, Resp: 19, Steps: 19, Key: []int{28}}
	checkEvents(t, r, first)
	take := [][]step{
		reads(2), writes(2, descriptor(pending+takes, 0, 2)), reads(1),
		reads(5), swaps(2, descriptor(pending+takes, 1, 2)), swaps(at(1, 1, taker), 1),
		reads(5), swaps(2, descriptor(takes, 6, 2)), swaps(0, ref(2, 1)), swaps(at(1, 1, mark), 0),
		reads(1), reads(1), reads(2),
	}
	r = checkSteps(t, 1, 1, 0, calls, turns(0, 19), 0, take...)
	second := api.Event{Call: 1, Inv: 20, Resp: 42, Steps: 23, Answer: api.Answer{Val: 5}, Key: []int{60}}
	checkEvents(t, r, first, second)
	empty := [][]step{
		reads(2), writes(2, descriptor(pending+takes, 0, 3)), reads(1),
		reads(5), swaps(2, descriptor(takes, 0, 3)),
		reads(1), reads(2),
	}
	r = checkSteps(t, 1, 1, 0, calls, turns(0, 42), 0, empty...)
	third := api.Event{Call: 2, Inv: 43, Resp: 55, Steps: 13, Answer: api.Answer{Err: api.ErrEmpty}, Key: []int{100}}
	checkEvents(t, r, first, second, third)
	// It has this key from the C on, but not before.
	for steps := 42; steps < 55; steps++ {
		r = play(t, 1, 1, 0, calls, turns(0, steps))
		if x := r.Events[len(r.Events)-1]; steps > 42 && slices.Equal(x.Key, third.Key) != (steps >= 52) {
			t.Errorf("%d steps: %v", steps, x)
		}
	}
}

// 22.2, 22.3: an attempt ends when the C of another thread came first; after the
// last one, the operation announces itself.
func TestAttempts(t *testing.T) {
	calls := []api.Call{putting(0, 5), putting(1, 6), taking(0), taking(1)}
	// Thread 0 stops before C of next, and thread 1 after its own.
	before := slices.Concat(turns(0, 8), turns(1, 9))
	checkSteps(t, 2, 1, 2, calls, before, 0,
		fails, reads(3), swaps(1, ref(3, 1)), // that of thread 1: the tail was not yet moved
		reads(2), swaps(at(2, 3, next), stamp(1, ref(2, 1))), reads(3), swaps(1, ref(2, 1)))
	r := checkSteps(t, 2, 1, 1, calls, before, 0,
		fails, reads(3), swaps(1, ref(3, 1)),
		reads(2), writes(2, descriptor(pending, ref(2, 1), 1)), reads(1),
		reads(4), swaps(at(2, 3, next), stamp(1, ref(2, 1))),
		reads(3), swaps(2, descriptor(0, ref(2, 1), 1)), swaps(1, ref(2, 1)),
		reads(1))
	checkEvents(t, r,
		api.Event{Inv: 1, Resp: 37, Steps: 28, Key: []int{62}},
		api.Event{Call: 1, Inv: 9, Steps: 9, Key: []int{34}})
	// An attempt to put that finds a node behind the last one moves the tail.
	checkSteps(t, 2, 1, 2, calls, append(turns(1, 9), turns(0, 6)...), 0,
		reads(2), reads(3), swaps(1, ref(3, 1)), reads(2), swaps(at(2, 3, next), stamp(1, ref(2, 1))))
	// An attempt to take, too.
	calls = []api.Call{putting(0, 5), taking(1)}
	r = checkSteps(t, 2, 1, 2, calls, turns(0, 9), 1,
		reads(5), reads(3), swaps(1, ref(2, 1)),
		reads(5), swaps(at(2, 1, taker), 34), reads(3), swaps(0, ref(2, 1)), swaps(at(2, 1, mark), 0))
	checkEvents(t, r,
		api.Event{Inv: 1, Steps: 9, Key: []int{18}},
		api.Event{Call: 1, Inv: 10, Resp: 29, Steps: 20, Answer: api.Answer{Val: 5}, Key: []int{48}})
}

// 22.2: an attempt to take ends when the head was moved meanwhile, and when
// another thread takes the value first.
func TestAttemptsToTake(t *testing.T) {
	calls := []api.Call{putting(0, 5), putting(0, 6), taking(0), taking(1)}
	begin := turns(0, 27)
	// Thread 1 has read next of the node 1 when thread 0 takes its value.
	r := checkSteps(t, 2, 2, 2, calls, slices.Concat(begin, turns(1, 4), turns(0, 12)), 1,
		reads(1),
		reads(5), swaps(at(2, 2, taker), stamp(1, 34)), reads(3), swaps(0, ref(3, 1)), swaps(at(2, 2, mark), 2))
	checkEvents(t, api.Report{Events: r.Events[2:]},
		api.Event{Call: 3, Inv: 28, Resp: 55, Steps: 16, Answer: api.Answer{Val: 6}, Key: []int{100}},
		api.Event{Call: 2, Inv: 32, Resp: 43, Steps: 12, Answer: api.Answer{Val: 5}, Key: []int{76}})
	// Thread 0 makes the C before it, and then stops.
	r = checkSteps(t, 2, 2, 2, calls, slices.Concat(begin, turns(1, 6), turns(0, 7)), 1,
		fails, reads(3), swaps(0, ref(2, 1)), swaps(at(2, 1, mark), 0),
		reads(5), swaps(at(2, 2, taker), stamp(1, 34)), reads(3), swaps(0, ref(3, 1)), swaps(at(2, 2, mark), 2))
	checkEvents(t, api.Report{Events: r.Events[2:]},
		api.Event{Call: 3, Inv: 28, Resp: 57, Steps: 23, Answer: api.Answer{Val: 6}, Key: []int{104}},
		api.Event{Call: 2, Inv: 34, Steps: 7, Key: []int{80}})
}

// 22.2, 22.3: a thread that has all its places in the queue gets no other one;
// nobody puts into the node 1, and the place of the head is free only when the
// head has left it.
func TestFull(t *testing.T) {
	full := api.Answer{Err: api.ErrFull}
	calls := []api.Call{putting(0, 5), putting(0, 6), taking(0), putting(0, 7), putting(1, 8), taking(0), putting(0, 9)}
	c := begin(t, 2, 1, 1, calls)
	for _, call := range calls {
		c.Finish(call.Thread)
	}
	r := play(t, 2, 1, 1, calls, c.Picks)
	checkEvents(t, r,
		api.Event{Call: 0, Inv: 1, Resp: 13, Steps: 13, Key: []int{18}},
		api.Event{Call: 1, Inv: 14, Resp: 15, Steps: 2, Answer: full, Key: []int{30}},
		api.Event{Call: 2, Inv: 16, Resp: 27, Steps: 12, Answer: api.Answer{Val: 5}, Key: []int{44}},
		api.Event{Call: 3, Inv: 28, Resp: 29, Steps: 2, Answer: full, Key: []int{58}},
		api.Event{Call: 4, Inv: 30, Resp: 42, Steps: 13, Key: []int{76}},
		api.Event{Call: 5, Inv: 43, Resp: 54, Steps: 12, Answer: api.Answer{Val: 8}, Key: []int{98}},
		api.Event{Call: 6, Inv: 55, Resp: 67, Steps: 13, Key: []int{126}})
	if r.Words[at(2, 2, mark)] != 5 || r.Words[at(2, 2, value)] != 2<<32+9 || r.Words[at(2, 3, next)] != stamp(1, ref(2, 2)) || r.Words[1] != ref(2, 2) {
		t.Error(r.Words)
	}
	// The key is the tick of the first mark that is read, also after another
	// operation was helped: thread 1 examines thread 0 in its third operation.
	calls = []api.Call{putting(1, 1), putting(1, 2), taking(0), putting(1, 3)}
	c = begin(t, 2, 2, 0, calls)
	c.Finish(1)
	c.Finish(1)
	c.Step(0, 4)
	c.Finish(1)
	r = play(t, 2, 2, 0, calls, c.Picks)
	helped := len(c.Picks) - 2
	if x := r.Events[3]; !slices.Equal(x.Key, []int{2 * (helped + 1)}) || x.Resp != helped+2 || x.Steps != 1+16+2 || x.Answer.Err != api.ErrFull {
		t.Error(x)
	}
	if r.Words[2]%2 == pending || load(r.Words[2]) != 2 {
		t.Error(r.Words)
	}
}

// announcing is the course of a queue in which thread 0 has announced that it
// puts 70, after thread 1 has put 71 while it tried.
func announcing(t *testing.T, n int, more ...api.Call) (*trial.Course, []api.Call) {
	t.Helper()
	calls := append([]api.Call{putting(0, 70), putting(1, 71)}, more...)
	c := begin(t, n, 2, 1, calls)
	c.Step(0, 8)
	c.Finish(1)
	c.Step(0, 3+n+1)
	if r := play(t, n, 2, 1, calls, c.Picks); r.Words[2] != descriptor(pending, ref(2, 1), 1) {
		t.Fatal(r)
	}
	return c, calls
}

// 22.2, 22.3: a thread that has announced itself, and makes no more steps, is
// helped by another one, in the operation that examines it: each operation
// examines another thread, but those that have an error at once examine none.
func TestExamined(t *testing.T) {
	for n := 2; n <= api.MaxThreads; n++ {
		more := []api.Call{putting(1, 1<<24), {Thread: 1, Kind: 2}, {Thread: 1, Obj: 1}}
		more = append(more, slices.Repeat([]api.Call{taking(1)}, n)...)
		c, calls := announcing(t, n, more...)
		for range 3 + n - 1 {
			c.Finish(1)
		}
		before := len(c.Picks)
		r := play(t, n, 2, 1, calls, c.Picks)
		if x := r.Events[0]; len(x.Key) != 0 || r.Words[2]%2 != pending {
			t.Errorf("%d threads: helped already: %v", n, r)
		}
		c.Finish(1)
		r = play(t, n, 2, 1, calls, c.Picks)
		if x := r.Events[0]; !slices.Equal(x.Key, []int{2 * (before + 6)}) || x.Resp != 0 || r.Words[2] != descriptor(0, ref(2, 1), 1) {
			t.Errorf("%d threads: not helped: %v", n, r)
		}
		if x := r.Events[len(r.Events)-1]; x.Answer.Val != 70 || x.Answer.Err != api.OK {
			t.Errorf("%d threads: %v", n, x)
		}
		// When it goes on, it finds that its own operation is done, and that no
		// other thread waits.
		c.Step(0, n)
		r = play(t, n, 2, 1, calls, c.Picks)
		if x := r.Events[0]; x.Resp != len(c.Picks) || x.Steps != 8+3+n+1+n {
			t.Errorf("%d threads: %v", n, x)
		}
	}
}

// 22.2: an operation that announces itself helps those whose phase is not above
// its own, and no others.
func TestPhases(t *testing.T) {
	calls := []api.Call{taking(0), taking(1), taking(1)}
	for _, q := range []struct {
		first int // steps of thread 1 while thread 0 has chosen its phase 1
		phase uint64
		steps int // of thread 0
		done  bool
	}{
		{4, 1, 3 + 1 + 1 + 6 + 1 + 6 + 3, true},
		{3 + 1 + 1 + 1 + 6 + 3 + 4, 2, 3 + 1 + 1 + 6 + 1 + 3, false},
	} {
		picks := slices.Concat(turns(0, 3), turns(1, q.first))
		r := play(t, 2, 1, 0, calls, picks)
		if r.Words[2] != 0 || r.Words[3] != descriptor(pending+takes, 0, q.phase) {
			t.Fatal(r.Words)
		}
		r = play(t, 2, 1, 0, calls, append(picks, turns(0, 50)...))
		if x := r.Events[0]; x.Resp == 0 || x.Steps != q.steps || x.Answer.Err != api.ErrEmpty || r.Words[3]%2 == pending == q.done {
			t.Errorf("%v: %v", q, r)
		}
	}
}

// 22.5: whatever other threads do, and even if they have all stopped, a thread
// completes its operation alone (W2), in no more steps than its bound.
func TestAlone(t *testing.T) {
	for seed := range 200 {
		number := trial.Numbers(uint64(seed))
		n, k, a := 1+number(api.MaxThreads), 1+number(3), number(4)
		var calls []api.Call
		for i := range 200 {
			calls = append(calls, api.Call{Thread: number(n), Kind: number(2), A: uint64(i)})
		}
		c := begin(t, n, k, a, calls)
		for range number(300) {
			c.Step(number(n), 1+number(20))
		}
		for thread := range n {
			c.Finish(thread)
		}
		for _, x := range play(t, n, k, a, calls, c.Picks).Events {
			if x.Steps > most(n, k, a) {
				t.Errorf("%d threads, %d places, %d attempts: %v", n, k, a, x)
			}
		}
	}
}

// 22.4, 22.6, 22.7, W5: operations that are executed completely, one after the
// other, have the answers of a queue in which the place of the head is not free;
// if there are attempts, no descriptor is written.
func TestOneAfterTheOther(t *testing.T) {
	for seed := range 100 {
		number := trial.Numbers(uint64(seed))
		n, k, a := 1+number(api.MaxThreads), 1+number(8), number(4)
		if seed%2 == 0 {
			n, k = 1+number(3), 1+number(3)
		}
		var calls []api.Call
		puts := 1 + number(5)
		for i := range 80 {
			calls = append(calls, api.Call{Thread: number(n), Kind: min(1, number(5)/puts), A: uint64(i)})
		}
		c := begin(t, n, k, a, calls)
		for _, call := range calls {
			c.Finish(call.Thread)
		}
		r := play(t, n, k, a, calls, c.Picks)
		checkAnswers(t, k, calls, r)
		announced := slices.ContainsFunc(r.Words[2:2+n], func(d uint64) bool { return d != 0 })
		if announced != (a == 0) {
			t.Errorf("%d attempts: %v", a, r.Words[2:2+n])
		}
	}
}

// checkAnswers checks the answers of operations that were executed one by one.
func checkAnswers(t *testing.T, k int, calls []api.Call, r api.Report) {
	t.Helper()
	var queue []item
	last := item{thread: -1}
	if len(r.Events) != len(calls) {
		t.Fatal(len(r.Events))
	}
	for i, x := range r.Events {
		c := calls[x.Call]
		used := ownOf(append(slices.Clone(queue), last), c.Thread)
		var want api.Answer
		switch {
		case c.Kind == 0 && used == k:
			want.Err = api.ErrFull
		case c.Kind == 0:
			queue = append(queue, item{c.Thread, c.A})
		case len(queue) == 0:
			want.Err = api.ErrEmpty
		default:
			last = queue[0]
			want.Val = last.value
			queue = queue[1:]
		}
		if x.Call != i || x.Resp == 0 || !trial.SameAnswer(x.Answer, want) {
			t.Fatalf("%v: want %v", x, want)
		}
	}
}

// 22.2: operations that respond with an error at once make no access.
func TestErrorsWithoutAccess(t *testing.T) {
	for _, q := range []struct {
		call api.Call
		want api.Errno
	}{
		{putting(0, 1<<24), api.ErrRange},
		{putting(1, 1<<32), api.ErrRange},
		{putting(0, top), api.ErrRange},
		{api.Call{Kind: 2}, api.ErrKind},
		{api.Call{Kind: -1}, api.ErrKind},
		{api.Call{Kind: 2, A: top}, api.ErrKind},
		{api.Call{Kind: math.MaxInt}, api.ErrKind},
		{api.Call{Kind: math.MinInt}, api.ErrKind},
		{api.Call{Obj: 1}, api.ErrObj},
		{api.Call{Obj: -1, Kind: 2, A: top}, api.ErrObj},
	} {
		want := api.Report{
			Events: []api.Event{{Inv: 1, Resp: 1, Steps: 1, Answer: api.Answer{Err: q.want}, Key: []int{2}}},
			Words:  initial(2, 3),
			Ticks:  1,
			Idle:   1,
		}
		for a := range 4 {
			if r := play(t, 2, 3, a, []api.Call{q.call}, turns(q.call.Thread, 2)); !trial.SameReport(r, want) {
				t.Errorf("%v: %v; want %v", q, r, want)
			}
		}
	}
}

// 22.2: the least and the greatest value; taking ignores all arguments, and
// putting the others.
func TestValues(t *testing.T) {
	calls := []api.Call{{A: 0, B: top, C: top}, {A: 1<<24 - 1}, {Kind: 1, A: top, B: top, C: top}, {Kind: 1}, {Kind: 1}}
	for a := range 4 {
		r := play(t, 1, 2, a, calls, turns(0, 200))
		for i, want := range []api.Answer{{}, {}, {Val: 0}, {Val: 1<<24 - 1}, {Err: api.ErrEmpty}} {
			if x := r.Events[i]; x.Resp == 0 || !trial.SameAnswer(x.Answer, want) {
				t.Errorf("%d attempts, %v: want %v", a, x, want)
			}
		}
	}
}

// Example 7 of the whole: a thread stops after the C that inserted its node;
// another one moves the tail, and takes the value.
func TestStopsAfterInsert(t *testing.T) {
	calls := []api.Call{putting(0, 5), taking(1), taking(1)}
	for a := 1; a <= 3; a++ {
		r := play(t, 2, 2, a, calls, append(turns(0, 9), turns(1, 40)...))
		if x := r.Events[0]; x.Resp != 0 || !slices.Equal(x.Key, []int{18}) {
			t.Errorf("%d attempts: %v", a, x)
		}
		if r.Events[1].Answer.Val != 5 || r.Events[2].Answer.Err != api.ErrEmpty || r.Words[1] != ref(2, 1) {
			t.Errorf("%d attempts: %v", a, r)
		}
	}
}

// 22.1: the errors of a play, in their order, and no report with them (R7).
func TestPlayErrors(t *testing.T) {
	for i, w := range trial.WrongPlays() {
		for _, q := range [][2]int{{1, 0}, {0, 4}} {
			if r, e := queue.Play(w.N, q[0], q[1], w.Calls, w.Picks); e != w.Want || !trial.SameReport(r, api.Report{}) {
				t.Errorf("%d, %v: %v, %v; want %v", i, q, r, e, w.Want)
			}
		}
	}
	for _, q := range [][2]int{
		{0, 0}, {-1, 0}, {33, 0}, {math.MinInt, 1}, {math.MaxInt, 1},
		{1, -1}, {1, 4}, {32, math.MinInt}, {32, math.MaxInt}, {33, 4},
	} {
		if r, e := queue.Play(2, q[0], q[1], []api.Call{putting(0, 1)}, []int{0}); e != api.ErrRange || !trial.SameReport(r, api.Report{}) {
			t.Errorf("%v: %v, %v", q, r, e)
		}
	}
}

// 22.1: queues of all sizes begin with the node 1 at both ends.
func TestBegin(t *testing.T) {
	for n := 1; n <= api.MaxThreads; n++ {
		for k := 1; k <= 32; k++ {
			for a := range 4 {
				if r := play(t, n, k, a, nil, nil); !trial.SameReport(r, api.Report{Words: initial(n, k)}) {
					t.Errorf("%d threads, %d places, %d attempts: %v", n, k, a, r)
				}
			}
		}
	}
}

// 22.1: plays at the limits: as many calls as there can be, with which nodes get
// great versions, and as many picks.
func TestPlayLimits(t *testing.T) {
	var calls []api.Call
	for i := range api.MaxCalls {
		calls = append(calls, api.Call{Kind: i % 2, A: uint64(i)})
	}
	for a := range 4 {
		r := play(t, 1, 2, a, calls, turns(0, api.MaxPicks))
		checkAnswers(t, 2, calls, r)
		if r.Words[at(1, 2, mark)] != 2*250 || r.Words[0] != ref(3, 250) {
			t.Error(r.Words)
		}
	}
	picks := slices.Repeat(threads(16), api.MaxPicks/16)
	for i := range calls {
		calls[i].Thread = i % 16
	}
	for a := range 4 {
		r := play(t, 16, 32, a, calls, picks)
		if len(r.Events) < 300 || r.Ticks+r.Idle != api.MaxPicks || r.Counts.Fault != 0 {
			t.Error(a, len(r.Events), r.Ticks, r.Idle)
		}
		if left := checkOneByOne(t, 16, 32, calls, r); !slices.Equal(left, content(16, 32, r.Words)) {
			t.Errorf("%v is in the queue; want %v", content(16, 32, r.Words), left)
		}
	}
}

// W6: the place of a queue in the memory changes no event, and no word. Of two
// of them, each one has its own values, and its own private data.
func TestElsewhere(t *testing.T) {
	for seed := range 100 {
		number := trial.Numbers(uint64(seed))
		n, k, a := 1+number(4), 1+number(3), number(4)
		var near, far []api.Call
		for i := range 20 {
			c := api.Call{Thread: number(n), Kind: number(2), A: uint64(i)}
			near = append(near, c)
			c.Obj = 2
			far = append(far, c)
		}
		var picks []int
		for range 200 {
			picks = append(picks, turns(number(n), 1+number(5))...)
		}
		r := play(t, n, k, a, near, picks)
		away, e := loom.Play(n, far, picks, queue.New(2, 0), loom.NewCells(3), queue.New(k, a), loom.NewCells(1))
		size, begin := 6+n+4*n*k, 6+n+8*n+3
		if e != api.OK || !trial.SameEvents(r.Events, away.Events) || r.Counts != away.Counts || !slices.Equal(r.Words, away.Words[begin:begin+size]) {
			t.Fatalf("%v; %v; %v", e, r, away)
		}
	}
	both := []api.Call{putting(0, 4), {Obj: 1, A: 6}, {Obj: 1, Kind: 1}, taking(0), {Obj: 1, Kind: 1}}
	r, e := loom.Play(1, both, turns(0, 200), queue.New(1, 1), queue.New(2, 0))
	if e != api.OK || len(r.Events) != 5 || r.Events[2].Answer.Val != 6 || r.Events[3].Answer.Val != 4 || r.Events[4].Answer.Err != api.ErrEmpty {
		t.Error(e, r)
	}
}

// R5: an object that is played again begins as it began before.
func TestAgain(t *testing.T) {
	object := queue.New(1, 1)
	for range 2 {
		r, e := loom.Play(2, []api.Call{putting(0, 9), taking(1)}, append(turns(0, 13), turns(1, 12)...), object)
		if e != api.OK || len(r.Events) != 2 || r.Events[1].Answer.Val != 9 || r.Words[0] != ref(2, 1) || r.Words[at(2, 2, mark)] != 3 {
			t.Error(e, r)
		}
	}
}

// R4: the arguments stay what they are, and two reports share no memory.
func TestReportsAlone(t *testing.T) {
	calls := append(make([]api.Call, 0, 4), putting(0, 3), taking(0))
	picks := append(make([]int, 0, 30), turns(0, 25)...)
	before, picksBefore := slices.Clone(calls[:4]), slices.Clone(picks[:30])
	first, second := play(t, 1, 1, 1, calls, picks), play(t, 1, 1, 1, calls, picks)
	if !slices.Equal(calls[:4], before) || !slices.Equal(picks[:30], picksBefore) {
		t.Error("Play changed its arguments")
	}
	first.Words[0] = 99
	first.Events[1].Key[0] = 99
	first.Events[0] = api.Event{}
	if !trial.SameReport(second, play(t, 1, 1, 1, calls, picks)) {
		t.Error("two reports share memory:", second)
	}
}
