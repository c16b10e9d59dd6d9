package cons_test

import (
	"math"
	"reflect"
	"slices"
	"testing"

	"roundelay/api"
	"roundelay/cons"
	"roundelay/keys"
	"roundelay/loom"
	"roundelay/pick"
	"roundelay/trial"
)

const limit = 1 << 32

// play returns the play of a cons, which must have no error.
func play(t *testing.T, n int, calls []api.Call, picks []int) api.Report {
	t.Helper()
	r, e := cons.Play(n, calls, picks)
	if e != api.OK {
		t.Fatalf("Play(%d, %v, %v): %v", n, calls, picks, e)
	}
	return r
}

// proposal is a call that proposes a number.
func proposal(thread int, number uint64) api.Call {
	return api.Call{Thread: thread, Kind: 0, A: number}
}

// reading is a call that reads.
func reading(thread int) api.Call {
	return api.Call{Thread: thread, Kind: 1}
}

// 7.2: the example of the chapter.
func TestExample(t *testing.T) {
	calls := []api.Call{proposal(0, 5), proposal(1, 6)}
	want := api.Report{
		Events: []api.Event{
			{Call: 0, Inv: 1, Resp: 4, Steps: 2, Answer: api.Answer{Val: 5}, Key: []int{2}},
			{Call: 1, Inv: 2, Resp: 3, Steps: 2, Answer: api.Answer{Val: 5}, Key: []int{4}},
		},
		Words:  []uint64{6},
		Counts: api.Counts{Read: 2, Swap: 2},
		Ticks:  4,
	}
	if r := play(t, 2, calls, []int{0, 1, 1, 0}); !trial.SameReport(r, want) {
		t.Errorf("%v; want %v", r, want)
	}
}

// 7.2: the first number that is proposed remains, the least and the greatest too.
func TestFirstNumberRemains(t *testing.T) {
	for _, first := range []uint64{0, 1, 5, limit - 2, limit - 1} {
		calls := []api.Call{reading(0), proposal(0, first), proposal(0, 7), reading(0), proposal(0, 0), reading(0)}
		r := play(t, 1, calls, make([]int, 10))
		if len(r.Events) != len(calls) || !reflect.DeepEqual(r.Events[0].Answer, api.Answer{Err: api.ErrEmpty}) {
			t.Fatalf("%d: %v", first, r)
		}
		for _, x := range r.Events[1:] {
			if !reflect.DeepEqual(x.Answer, api.Answer{Val: first}) {
				t.Errorf("%d: %v", first, x)
			}
		}
		if !slices.Equal(r.Words, []uint64{first + 1}) || r.Ticks != 9 || r.Idle != 1 {
			t.Errorf("%d: %v", first, r)
		}
	}
}

// 7.2: operations that respond with an error at once make no access.
func TestErrorsWithoutAccess(t *testing.T) {
	for _, q := range []struct {
		call api.Call
		want api.Errno
	}{
		{proposal(0, limit), api.ErrRange},
		{proposal(0, limit+1), api.ErrRange},
		{proposal(0, 1<<63), api.ErrRange},
		{proposal(0, math.MaxUint64), api.ErrRange},
		{api.Call{Kind: 2}, api.ErrKind},
		{api.Call{Kind: 2, A: limit}, api.ErrKind},
		{api.Call{Kind: -1, A: limit}, api.ErrKind},
		{api.Call{Kind: math.MaxInt}, api.ErrKind},
		{api.Call{Kind: math.MinInt}, api.ErrKind},
		{api.Call{Obj: 1}, api.ErrObj},
		{api.Call{Obj: -1, Kind: 2, A: limit}, api.ErrObj},
	} {
		want := api.Report{
			Events: []api.Event{{Inv: 1, Resp: 1, Steps: 1, Answer: api.Answer{Err: q.want}, Key: []int{2}}},
			Words:  []uint64{0},
			Ticks:  1,
			Idle:   1,
		}
		if r := play(t, 1, []api.Call{q.call}, []int{0, 0}); !trial.SameReport(r, want) {
			t.Errorf("%v: %v; want %v", q.call, r, want)
		}
	}
}

// 7.2: operations ignore what they have no use for.
func TestIgnoredArguments(t *testing.T) {
	calls := []api.Call{
		{Kind: 0, A: 3, B: math.MaxUint64, C: math.MaxUint64},
		{Kind: 1, A: math.MaxUint64, B: math.MaxUint64, C: math.MaxUint64},
	}
	r := play(t, 1, calls, []int{0, 0, 0})
	if len(r.Events) != 2 || r.Events[0].Answer.Val != 3 || !reflect.DeepEqual(r.Events[1].Answer, api.Answer{Val: 3}) {
		t.Error(r)
	}
}

// 7.2: the access of each step, and when a proposal has a key.
func TestSteps(t *testing.T) {
	calls := []api.Call{proposal(0, 8), proposal(1, 9), reading(2)}
	picks := []int{2, 1, 0, 0, 1}
	for i, want := range []api.Report{
		{Words: []uint64{0}},
		{Words: []uint64{0}, Counts: api.Counts{Read: 1}},
		{Words: []uint64{10}, Counts: api.Counts{Read: 1, Swap: 1}},
		{Words: []uint64{10}, Counts: api.Counts{Read: 1, Swap: 2}},
		{Words: []uint64{10}, Counts: api.Counts{Read: 2, Swap: 2}},
		{Words: []uint64{10}, Counts: api.Counts{Read: 3, Swap: 2}},
	} {
		r := play(t, 3, calls, picks[:i])
		if !slices.Equal(r.Words, want.Words) || r.Counts != want.Counts {
			t.Errorf("after %d steps: %v; want %v", i, r, want)
		}
	}
	r := play(t, 3, calls, picks[:3])
	want := []api.Event{
		{Call: 2, Inv: 1, Resp: 1, Steps: 1, Answer: api.Answer{Err: api.ErrEmpty}, Key: []int{2}},
		{Call: 1, Inv: 2, Steps: 1, Key: []int{4}},
		{Call: 0, Inv: 3, Steps: 1, Key: []int{6}},
	}
	if !trial.SameEvents(r.Events, want) {
		t.Errorf("%v; want %v", r.Events, want)
	}
}

// 7.1: the errors of a play, in their order, and no report with them (R7).
func TestPlayErrors(t *testing.T) {
	for i, q := range trial.WrongPlays() {
		if r, e := cons.Play(q.N, q.Calls, q.Picks); e != q.Want || !trial.SameReport(r, api.Report{}) {
			t.Errorf("%d: %v, %v; want %v", i, r, e, q.Want)
		}
	}
}

// 7.1: plays at the limits, and without calls.
func TestPlayLimits(t *testing.T) {
	calls := make([]api.Call, api.MaxCalls)
	for i := range calls {
		calls[i] = proposal(i%16, uint64(i+3))
	}
	picks := make([]int, api.MaxPicks)
	for i := range picks {
		picks[i] = i % 16
	}
	r := play(t, 16, calls, picks)
	if len(r.Events) != 1000 || r.Ticks != 2000 || r.Idle != api.MaxPicks-2000 || r.Events[999].Answer.Val != 3 {
		t.Error(len(r.Events), r.Ticks, r.Idle)
	}
	if r := play(t, 1, nil, nil); !trial.SameReport(r, api.Report{Words: []uint64{0}}) {
		t.Error(r)
	}
}

// 7.1 to 7.5: all plays of a few threads, and what the chapter says of each.
func TestAllPlays(t *testing.T) {
	for _, q := range []struct {
		n, picks int
		calls    []api.Call
	}{
		{1, 6, []api.Call{proposal(0, 4), proposal(0, limit), reading(0)}},
		{2, 8, []api.Call{proposal(0, 5), proposal(1, 6), reading(0), reading(1)}},
		{2, 8, []api.Call{reading(0), proposal(1, limit), proposal(0, 0), proposal(1, 1), {Thread: 1, Kind: 2}}},
		{3, 7, []api.Call{proposal(0, 5), proposal(1, 6), proposal(2, 7), reading(2)}},
		{3, 7, []api.Call{reading(2), reading(2), reading(2), proposal(1, 2), proposal(0, 1), {Obj: 1}}},
	} {
		for picks := range trial.Rows(q.n, q.picks) {
			r := play(t, q.n, q.calls, picks)
			if want := stepByStep(t, q.n, q.calls, picks); !trial.SameReport(r, want) {
				t.Fatalf("%v of %v: %v; want %v", picks, q.calls, r, want)
			}
			checkAgreement(t, q.calls, r)
			checkOneByOne(t, q.calls, r)
			if t.Failed() {
				t.Fatalf("%v of %v: %v", picks, q.calls, r)
			}
		}
	}
}

// stepByStep makes the accesses of the chapter in the turns of the threads.
func stepByStep(t *testing.T, n int, calls []api.Call, picks []int) api.Report {
	t.Helper()
	need := make([]int, len(calls))
	for i, c := range calls {
		if refusal(c) == api.OK && c.Kind == 0 {
			need[i] = 2
		}
	}
	turns, idle, e := pick.Turns(n, calls, need, picks)
	if e != api.OK {
		t.Fatal(e)
	}
	r := api.Report{Words: []uint64{0}, Ticks: len(turns), Idle: idle}
	events := map[int]int{}
	for i, call := range turns {
		if _, begun := events[call]; !begun {
			events[call] = len(r.Events)
			r.Events = append(r.Events, api.Event{Call: call, Inv: i + 1})
		}
		step(&r, &r.Events[events[call]], calls[call], i+1)
	}
	return r
}

// step makes the next step of an event.
func step(r *api.Report, x *api.Event, c api.Call, tick int) {
	x.Steps++
	switch {
	case refusal(c) != api.OK:
		x.Answer.Err = refusal(c)
	case c.Kind == 0 && x.Steps == 1:
		r.Counts.Swap++
		if r.Words[0] == 0 {
			r.Words[0] = c.A + 1
		}
		x.Key = []int{2 * tick}
		return
	default:
		r.Counts.Read++
		x.Answer = decided(r.Words[0])
	}
	x.Resp = tick
	if len(x.Key) == 0 {
		x.Key = []int{2 * tick}
	}
}

// refusal is the error with which a call responds without an access.
func refusal(c api.Call) api.Errno {
	switch {
	case c.Obj != 0:
		return api.ErrObj
	case c.Kind != 0 && c.Kind != 1:
		return api.ErrKind
	case c.Kind == 0 && c.A >= limit:
		return api.ErrRange
	}
	return api.OK
}

// decided is the answer that a word gives.
func decided(word uint64) api.Answer {
	if word == 0 {
		return api.Answer{Err: api.ErrEmpty}
	}
	return api.Answer{Val: word - 1}
}

// checkAgreement checks that all numbers are the same, that of the proposal
// with the first key (7.3), and that no operation makes more than two steps (7.4).
func checkAgreement(t *testing.T, calls []api.Call, r api.Report) {
	t.Helper()
	first := math.MaxInt
	var agreed uint64
	for _, x := range r.Events {
		if c := calls[x.Call]; refusal(c) == api.OK && c.Kind == 0 && x.Key[0] < first {
			first, agreed = x.Key[0], c.A
		}
	}
	for _, x := range r.Events {
		if x.Resp != 0 && x.Answer.Err == api.OK && (x.Answer.Val != agreed || first == math.MaxInt) {
			t.Errorf("%v: not %d", x, agreed)
		}
		if x.Steps > 2 {
			t.Errorf("%v: too many steps", x)
		}
	}
}

// checkOneByOne executes the operations in the order of their keys, at one
// moment each (7.5).
func checkOneByOne(t *testing.T, calls []api.Call, r api.Report) {
	t.Helper()
	var l [][]int
	for _, x := range r.Events {
		last := x.Resp
		if last == 0 {
			last = r.Ticks
		}
		if !keys.Within(x.Key, x.Inv, last) {
			t.Errorf("%v: key at another time", x)
		}
		l = append(l, x.Key)
	}
	var word uint64
	for _, i := range keys.Order(l) {
		x := r.Events[i]
		c := calls[x.Call]
		want := api.Answer{Err: refusal(c)}
		if want.Err == api.OK {
			if c.Kind == 0 && word == 0 {
				word = c.A + 1
			}
			want = decided(word)
		}
		if x.Resp != 0 && !reflect.DeepEqual(x.Answer, want) {
			t.Errorf("%v: want %v", x, want)
		}
	}
}

// W6: the place of a cons in the memory changes no event, and its word alone.
func TestElsewhere(t *testing.T) {
	calls := []api.Call{reading(0), proposal(0, 5), proposal(1, 6), reading(1)}
	away := slices.Clone(calls)
	for i := range away {
		away[i].Obj = 1
	}
	picks := []int{0, 1, 0, 0, 1, 1}
	near := play(t, 2, calls, picks)
	far, e := loom.Play(2, away, picks, loom.NewCells(2), cons.New(), cons.New())
	if e != api.OK || len(far.Events) != 4 || !trial.SameEvents(near.Events, far.Events) || near.Counts != far.Counts {
		t.Errorf("%v; %v; %v", e, near, far)
	}
	if !slices.Equal(near.Words, []uint64{7}) || !slices.Equal(far.Words, []uint64{0, 0, 7, 0}) {
		t.Errorf("%v; %v", near.Words, far.Words)
	}
}

// R4: the arguments stay what they are, and two reports share no memory.
func TestReportsAlone(t *testing.T) {
	calls := append(make([]api.Call, 0, 4), proposal(0, 3), reading(1))
	picks := append(make([]int, 0, 5), 0, 0, 1)
	before, picksBefore := slices.Clone(calls[:4]), slices.Clone(picks[:5])
	first, second := play(t, 2, calls, picks), play(t, 2, calls, picks)
	if !slices.Equal(calls[:4], before) || !slices.Equal(picks[:5], picksBefore) {
		t.Error("Play changed its arguments")
	}
	first.Words[0] = 99
	first.Events[0].Key[0] = 99
	first.Events[1] = api.Event{}
	if want := stepByStep(t, 2, calls, picks); !trial.SameReport(second, want) {
		t.Errorf("%v; want %v", second, want)
	}
}
