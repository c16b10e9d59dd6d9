package cut_test

import (
	"math"
	"slices"
	"testing"

	"roundelay/api"
	"roundelay/cut"
	"roundelay/trial"
)

// ticks returns what Ticks returns, which must have no error.
func ticks(t *testing.T, n int, calls []api.Call, l []api.Event, picks []int) []cut.Tick {
	t.Helper()
	x, e := cut.Ticks(n, calls, l, picks)
	if e != api.OK {
		t.Fatalf("Ticks(%d, %v, %v, %v): %v", n, calls, l, picks, e)
	}
	return x
}

// at returns what At returns, which must have no error.
func at(t *testing.T, n int, calls []api.Call, l []api.Event, picks []int, tick int) []api.Event {
	t.Helper()
	x, e := cut.At(n, calls, l, picks, tick)
	if e != api.OK {
		t.Fatalf("At(%d, %v, %v, %v, %d): %v", n, calls, l, picks, tick, e)
	}
	return x
}

// 36.1: the ticks of short plays, and of events that no play has.
func TestTicks(t *testing.T) {
	two := []api.Call{{Thread: 0}, {Thread: 1}}
	three := []api.Call{{Thread: 1}, {Thread: 0}, {Thread: 1}}
	for i, x := range []struct {
		n     int
		calls []api.Call
		l     []api.Event
		picks []int
		want  []cut.Tick
	}{
		// Two threads add.
		{2, two, []api.Event{{Call: 1, Inv: 1, Resp: 1, Steps: 1}, {Call: 0, Inv: 2, Resp: 2, Steps: 1}}, []int{1, 0},
			[]cut.Tick{{Thread: 1, Call: 1, First: true, Last: true}, {Thread: 0, Call: 0, First: true, Last: true}}},
		// Idle picks are no ticks.
		{2, two, []api.Event{{Call: 1, Inv: 1, Resp: 1, Steps: 1}, {Call: 0, Inv: 2, Steps: 2}}, []int{2, 1, 1, -1, 0, math.MaxInt, 1, 0, math.MinInt},
			[]cut.Tick{{Thread: 1, Call: 1, First: true, Last: true}, {Thread: 0, Call: 0, First: true}, {Thread: 0, Call: 0}}},
		// The next call of a thread follows when one has responded.
		{2, three, []api.Event{{Call: 0, Inv: 1, Resp: 3, Steps: 2}, {Call: 1, Inv: 2, Steps: 1}, {Call: 2, Inv: 4, Resp: 4, Steps: 1}}, []int{1, 0, 1, 1, 1},
			[]cut.Tick{{Thread: 1, Call: 0, First: true}, {Thread: 0, Call: 1, First: true}, {Thread: 1, Call: 0, Last: true}, {Thread: 1, Call: 2, First: true, Last: true}}},
		// A call without an event never responds, nor does one whose Resp is not its tick.
		{2, three, nil, []int{1, 0, 1}, []cut.Tick{{Thread: 1, Call: 0}, {Thread: 0, Call: 1}, {Thread: 1, Call: 0}}},
		{2, three, []api.Event{{Call: 0, Inv: 1, Resp: 2}, {Call: 1, Inv: 1, Resp: -1}, {Call: 2, Inv: 3}}, []int{1, 0, 1},
			[]cut.Tick{{Thread: 1, Call: 0, First: true}, {Thread: 0, Call: 1}, {Thread: 1, Call: 0}}},
		// Of several events with a call, the first one counts.
		{2, three, []api.Event{{Call: 0, Inv: 2, Resp: 3}, {Call: 0, Inv: 1, Resp: 1}}, []int{1, 1, 1},
			[]cut.Tick{{Thread: 1, Call: 0}, {Thread: 1, Call: 0, First: true}, {Thread: 1, Call: 0, Last: true}}},
		// An event may end without having begun, or before it begins.
		{2, three, []api.Event{{Call: 2, Inv: 1, Resp: 2}, {Call: 0, Inv: 4, Resp: 1}}, []int{1, 1, 1, 1},
			[]cut.Tick{{Thread: 1, Call: 0, Last: true}, {Thread: 1, Call: 2, Last: true}}},
		// Events of calls that do not exist, and numbers at the ends of their range.
		{1, []api.Call{{}}, []api.Event{{Call: -1, Inv: 1, Resp: 1}, {Call: 1, Inv: 1, Resp: 1}, {Call: math.MaxInt, Inv: 1}, {Call: 0, Inv: math.MaxInt, Resp: math.MinInt}, {Call: math.MinInt}}, []int{0},
			[]cut.Tick{{Thread: 0, Call: 0}}},
		{3, three, []api.Event{{Call: 0, Inv: 1, Resp: 1}}, nil, nil},
		{16, nil, []api.Event{{Call: 0, Inv: 1, Resp: 1}}, []int{0, 15}, nil},
		{1, nil, nil, nil, nil},
	} {
		if l := ticks(t, x.n, x.calls, x.l, x.picks); !slices.Equal(l, x.want) {
			t.Errorf("%d: %v; want %v", i, l, x.want)
		}
	}
}

// 36.1, 36.2: the errors, in their order, of both functions.
func TestErrors(t *testing.T) {
	l := []api.Event{{Call: 0, Inv: 1, Resp: 1, Steps: 1}}
	many, long := make([]api.Call, api.MaxCalls+1), make([]int, api.MaxPicks+1)
	wrong := trial.WrongPlays()
	wrong = append(wrong,
		trial.WrongPlay{N: 0, Calls: []api.Call{{Thread: 5}}, Picks: []int{0}, Want: api.ErrArg},
		trial.WrongPlay{N: 17, Calls: many, Want: api.ErrArg},
		trial.WrongPlay{N: 1, Calls: many, Picks: []int{0}, Want: api.ErrLong},
		trial.WrongPlay{N: 1, Picks: long, Want: api.ErrLong},
		trial.WrongPlay{N: 16, Calls: many, Picks: long, Want: api.ErrLong},
		trial.WrongPlay{N: 16, Calls: []api.Call{{}, {Thread: 16}}, Picks: []int{0}, Want: api.ErrArg},
		trial.WrongPlay{N: 16, Calls: []api.Call{{Thread: math.MinInt}}, Want: api.ErrArg},
		trial.WrongPlay{N: 16, Calls: many[1:], Picks: long[1:], Want: api.OK},
	)
	for i, x := range wrong {
		x0, e := cut.Ticks(x.N, x.Calls, l, x.Picks)
		if e != x.Want || e != api.OK && len(x0) != 0 {
			t.Errorf("%d: Ticks: %d, %v; want %v", i, len(x0), e, x.Want)
		}
		for _, tick := range []int{math.MinInt, 0, 1, math.MaxInt} {
			x1, e := cut.At(x.N, x.Calls, l, x.Picks, tick)
			if e != x.Want || e != api.OK && len(x1) != 0 {
				t.Errorf("%d: At %d: %d, %v; want %v", i, tick, len(x1), e, x.Want)
			}
		}
	}
}

// someEvent is an event with an answer and a key.
func someEvent(call, inv, resp, steps int) api.Event {
	return api.Event{Call: call, Inv: inv, Resp: resp, Steps: steps, Answer: api.Answer{Err: api.ErrFull, Val: 7, List: []uint64{3, 4}}, Key: []int{2 * inv, 1}}
}

// 36.2: the states of a short play, from one tick to the next.
func TestAt(t *testing.T) {
	calls := []api.Call{{Thread: 0}, {Thread: 1}, {Thread: 0}}
	l := []api.Event{someEvent(0, 1, 3, 2), someEvent(1, 2, 0, 2), someEvent(2, 5, 5, 1)}
	picks := []int{0, 1, 5, 0, 1, 0, 0}
	for _, x := range []struct {
		tick int
		want []api.Event
	}{
		{math.MinInt, nil},
		{-1, nil},
		{0, nil},
		{1, []api.Event{{Call: 0, Inv: 1, Steps: 1}}},
		{2, []api.Event{{Call: 0, Inv: 1, Steps: 1}, {Call: 1, Inv: 2, Steps: 1}}},
		{3, []api.Event{l[0], {Call: 1, Inv: 2, Steps: 1}}},
		{4, []api.Event{l[0], {Call: 1, Inv: 2, Steps: 2}}},
		{5, []api.Event{l[0], {Call: 1, Inv: 2, Steps: 2}, l[2]}},
		{6, []api.Event{l[0], {Call: 1, Inv: 2, Steps: 2}, l[2]}},
		{math.MaxInt, []api.Event{l[0], {Call: 1, Inv: 2, Steps: 2}, l[2]}},
	} {
		if s := at(t, 2, calls, l, picks, x.tick); !trial.SameEvents(s, x.want) {
			t.Errorf("at %d: %v; want %v", x.tick, s, x.want)
		}
	}
}

// 36.2: events that no play has: out of order, several with a call, without a call, and
// with numbers at the ends of their range.
func TestAtStrange(t *testing.T) {
	calls := []api.Call{{Thread: 0}, {Thread: 1}}
	with := func(x api.Event, steps int) api.Event {
		x.Steps = steps
		return x
	}
	late, early := someEvent(1, 9, 9, 4), someEvent(0, -3, -2, 8)
	again, nowhere := someEvent(0, 2, 3, -5), someEvent(7, 1, math.MinInt, 6)
	first, last := someEvent(-1, math.MinInt, math.MaxInt, 2), someEvent(1, math.MaxInt, math.MinInt, 2)
	l := []api.Event{late, early, again, nowhere, first, last}
	picks := []int{0, 0, 1, 0}
	pending := api.Event{Call: -1, Inv: math.MinInt}
	for _, x := range []struct {
		tick int
		want []api.Event
	}{
		{math.MinInt, []api.Event{pending}},
		{-4, []api.Event{pending}},
		{-3, []api.Event{{Call: 0, Inv: -3}, pending}},
		{-2, []api.Event{with(early, 0), pending}},
		{1, []api.Event{with(early, 1), with(nowhere, 0), pending}},
		{2, []api.Event{with(early, 2), {Call: 0, Inv: 2, Steps: 2}, with(nowhere, 0), pending}},
		{3, []api.Event{with(early, 2), with(again, 2), with(nowhere, 0), pending}},
		{4, []api.Event{with(early, 3), with(again, 3), with(nowhere, 0), pending}},
		{8, []api.Event{with(early, 3), with(again, 3), with(nowhere, 0), pending}},
		{9, []api.Event{with(late, 1), with(early, 3), with(again, 3), with(nowhere, 0), pending}},
		{math.MaxInt, []api.Event{with(late, 1), with(early, 3), with(again, 3), with(nowhere, 0), with(first, 0), with(last, 1)}},
	} {
		if s := at(t, 2, calls, l, picks, x.tick); !trial.SameEvents(s, x.want) {
			t.Errorf("at %d: %v; want %v", x.tick, s, x.want)
		}
	}
}

// R4: the arguments remain what they are, and a result shares nothing with them, nor
// with itself, even if the events of the argument share their lists.
func TestAlone(t *testing.T) {
	x := someEvent(0, 1, 1, 1)
	y := someEvent(1, 2, 2, 1)
	y.Key, y.Answer.List = x.Key, x.Answer.List
	l := append(make([]api.Event, 0, 3), x, y)
	calls := append(make([]api.Call, 0, 3), api.Call{}, api.Call{})
	picks := append(make([]int, 0, 4), 0, 0, 0)
	l[:3][2], calls[:3][2], picks[:4][3] = someEvent(0, 1, 0, 0), api.Call{Thread: 9}, 7
	lBefore := []api.Event{someEvent(0, 1, 1, 1), y, someEvent(0, 1, 0, 0)}
	lBefore[1].Key, lBefore[1].Answer.List = slices.Clone(x.Key), slices.Clone(x.Answer.List)
	callsBefore, picksBefore := slices.Clone(calls[:3]), slices.Clone(picks[:4])
	clear(ticks(t, 1, calls, l, picks))
	first, second := at(t, 1, calls, l, picks, 2), at(t, 1, calls, l, picks, 2)
	clear(first[0].Key)
	clear(first[0].Answer.List)
	_ = append(at(t, 1, calls, l, picks, 1), api.Event{Call: 99})
	if !trial.SameEvents(second, lBefore[:2]) || !trial.SameEvents(l[:3], lBefore) {
		t.Error(second, l[:3])
	}
	clear(second[0].Key[:cap(second[0].Key)])
	clear(second[0].Answer.List[:cap(second[0].Answer.List)])
	if !trial.SameEvents(second[1:], lBefore[1:2]) || !trial.SameEvents(l[:3], lBefore) {
		t.Error(second, l[:3])
	}
	if !slices.Equal(calls[:3], callsBefore) || !slices.Equal(picks[:4], picksBefore) {
		t.Error(calls[:3], picks[:4])
	}
}

// Nothing is appended to a state in place: it has no spare capacity.
func TestNoSpare(t *testing.T) {
	calls := []api.Call{{}, {}}
	l := []api.Event{someEvent(0, 1, 1, 1), someEvent(1, 2, 2, 1)}
	for tick := range 4 {
		if s := at(t, 1, calls, l, []int{0, 0}, tick); len(s) != min(tick, 2) || cap(s) != len(s) {
			t.Errorf("at %d: %d events, and place for %d", tick, len(s), cap(s))
		}
	}
}
