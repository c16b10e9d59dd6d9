package history_test

import (
	"math"
	"reflect"
	"slices"
	"testing"

	"roundelay/api"
	"roundelay/history"
	"roundelay/trial"
)

// threads returns calls of these threads.
func threads(l ...int) []api.Call {
	var calls []api.Call
	for _, thread := range l {
		calls = append(calls, api.Call{Thread: thread})
	}
	return calls
}

// span is an event of a call, with as many steps as it can have at most.
func span(call, inv, resp int) api.Event {
	x := api.Event{Call: call, Inv: inv, Resp: resp, Steps: 1}
	if resp > inv {
		x.Steps = resp - inv + 1
	}
	return x
}

// 26.1: events that form a history.
func TestRight(t *testing.T) {
	for i, x := range []struct {
		n     int
		calls []api.Call
		l     []api.Event
		ticks int
	}{
		{1, threads(0), nil, 0},
		{0, nil, []api.Event{}, -1},
		{math.MinInt, threads(7), nil, math.MinInt},
		{1, threads(0), []api.Event{span(0, 1, 1)}, 1},
		{1, threads(0), []api.Event{span(0, 1, 0)}, 1},
		{1, threads(0), []api.Event{span(0, 3, 9)}, 9},
		{1, threads(0), []api.Event{span(0, 9, 9)}, 9},
		{1, threads(0), []api.Event{span(0, 9, 0)}, 9},
		{1, threads(0), []api.Event{{Inv: 3, Resp: 9, Steps: 1}}, 20},
		{1, threads(0), []api.Event{{Inv: 3, Resp: 9, Steps: 7}}, 9},
		// Whoever has not responded may have made any number of steps.
		{1, threads(0), []api.Event{{Inv: 3, Steps: math.MaxInt}}, 3},
		{1, threads(0), []api.Event{span(0, 1, math.MaxInt)}, math.MaxInt},
		{1, threads(0), []api.Event{span(0, math.MaxInt, math.MaxInt)}, math.MaxInt},
		{1, threads(0, 0), []api.Event{span(0, 1, 4), span(1, 5, 0)}, 5},
		{1, threads(0, 0, 0), []api.Event{span(0, 1, 1), span(2, 2, 2)}, 2},
		{2, threads(0, 1), []api.Event{span(1, 1, 0), span(0, 2, 0)}, 2},
		{2, threads(0, 1), []api.Event{span(1, 1, 4), span(0, 2, 4)}, 4},
		{2, threads(0, 1, 0), []api.Event{span(0, 1, 2), span(1, 2, 9), span(2, 3, 3)}, 9},
		{3, threads(0, -1, 2, 3), []api.Event{span(2, 1, 1)}, 1},
		{100, threads(99, 16), []api.Event{span(1, 1, 1), span(0, 2, 2)}, 2},
		{math.MaxInt, threads(math.MaxInt - 1), []api.Event{span(0, 1, 1)}, 1},
	} {
		if !history.Right(x.n, x.calls, x.l, x.ticks) {
			t.Errorf("%d: Right(%d, %v, %v, %d) is false", i, x.n, x.calls, x.l, x.ticks)
		}
	}
}

// 26.1: a history of three threads of which one thing is changed.
func TestWrong(t *testing.T) {
	calls := threads(0, 1, 0, 2, 1, 3, -1, 0)
	good := func() []api.Event {
		return []api.Event{
			span(0, 1, 3), span(1, 2, 6), span(2, 4, 5), span(3, 7, 0), span(4, 8, 9), span(7, 10, 0),
		}
	}
	if !history.Right(3, calls, good(), 10) {
		t.Fatal("it is none")
	}
	for i, spoil := range []func(l []api.Event){
		func(l []api.Event) { l[1].Call = -1 },
		func(l []api.Event) { l[1].Call = 8 },
		func(l []api.Event) { l[1].Call = math.MinInt },
		func(l []api.Event) { l[3].Call = math.MaxInt },
		func(l []api.Event) { l[3].Call = 5 }, // a thread that there is not
		func(l []api.Event) { l[3].Call = 6 },
		func(l []api.Event) { l[0].Inv = 0 },
		func(l []api.Event) { l[0].Inv = -1 },
		func(l []api.Event) { l[0].Inv = math.MinInt },
		func(l []api.Event) { l[5].Inv = 11 },
		func(l []api.Event) { l[5].Inv = math.MaxInt },
		func(l []api.Event) { l[1].Inv = 1 },
		func(l []api.Event) { l[3].Inv = 8 },
		func(l []api.Event) { l[3].Inv = 9 },
		func(l []api.Event) { l[3].Inv = 4 },
		func(l []api.Event) { l[0], l[1] = l[1], l[0] },
		func(l []api.Event) { l[0].Steps = 0 },
		func(l []api.Event) { l[3].Steps = 0 },
		func(l []api.Event) { l[3].Steps = math.MinInt },
		func(l []api.Event) { l[0].Steps = 4 },
		func(l []api.Event) { l[2].Steps = 3 },
		func(l []api.Event) { l[4].Steps = math.MaxInt },
		func(l []api.Event) { l[2].Resp = 3 },
		func(l []api.Event) { l[2].Resp = -1 },
		func(l []api.Event) { l[2].Resp = math.MinInt },
		func(l []api.Event) { l[5].Resp = 11 },
		func(l []api.Event) { l[5].Resp = math.MaxInt },
		func(l []api.Event) { l[0].Resp = 4 }, // the next event of its thread begins then
		func(l []api.Event) { l[0].Resp = 5 },
		func(l []api.Event) { l[0].Resp = 0 },
		func(l []api.Event) { l[1].Resp = 0 }, // and there are others in between
		func(l []api.Event) { l[1].Resp = 8 },
		func(l []api.Event) { l[2].Resp = 10 },
		func(l []api.Event) { l[2].Call = 0 }, // a call twice
		func(l []api.Event) { l[4].Call = 1 },
		func(l []api.Event) { l[0].Call, l[2].Call = 2, 0 },
		func(l []api.Event) { l[1].Call, l[4].Call = 4, 1 },
		func(l []api.Event) { l[0].Call, l[5].Call = 7, 0 },
	} {
		l := good()
		spoil(l)
		if history.Right(3, calls, l, 10) {
			t.Errorf("change %d: %v", i, l)
		}
	}
	for _, x := range []struct{ n, ticks int }{{2, 10}, {0, 10}, {-1, 10}, {math.MinInt, 10}, {3, 9}, {3, 0}, {3, math.MinInt}} {
		if history.Right(x.n, calls, good(), x.ticks) {
			t.Errorf("%d threads, %d ticks", x.n, x.ticks)
		}
	}
	if history.Right(3, calls[:7], good(), 10) || history.Right(3, nil, good(), 10) {
		t.Error("too few calls")
	}
}

// ahead is the chapter's word: an event precedes another one.
func ahead(x, y api.Event) bool {
	return x.Resp != 0 && x.Resp < y.Inv
}

// right is the chapter's definition of a history, pair by pair.
func right(n int, calls []api.Call, l []api.Event, ticks int) bool {
	for i, x := range l {
		if x.Call < 0 || x.Call >= len(calls) || calls[x.Call].Thread < 0 || calls[x.Call].Thread >= n {
			return false
		}
		if x.Inv < 1 || x.Inv > ticks || i > 0 && x.Inv <= l[i-1].Inv || x.Steps < 1 {
			return false
		}
		if x.Resp != 0 && (x.Resp < x.Inv || x.Resp > ticks || x.Steps > x.Resp-x.Inv+1) {
			return false
		}
	}
	for i, x := range l {
		for _, y := range l[i+1:] {
			if calls[x.Call].Thread == calls[y.Call].Thread && (!ahead(x, y) || x.Call >= y.Call) {
				return false
			}
		}
	}
	return true
}

// width is the chapter's definition, event by event.
func width(l []api.Event) int {
	most := 0
	for _, x := range l {
		count := 0
		for _, y := range l {
			if y.Inv <= x.Inv && (y.Resp == 0 || x.Inv <= y.Resp) {
				count++
			}
		}
		most = max(most, count)
	}
	return most
}

// anyEvents makes events that hardly ever form a history, some of them far apart.
func anyEvents(number func(below int) int) []api.Event {
	far := []int{math.MinInt, math.MinInt + 1, -1, 0, 1, math.MaxInt - 1, math.MaxInt}
	tick := func() int {
		if number(12) == 0 {
			return far[number(len(far))]
		}
		return number(12) - 2
	}
	var l []api.Event
	for range number(9) {
		l = append(l, api.Event{Call: tick(), Inv: tick(), Resp: tick(), Steps: tick()})
	}
	return l
}

// someHistory makes events that form a history of the threads of these calls.
func someHistory(number func(below int) int, n int, calls []api.Call) ([]api.Event, int) {
	var l []api.Event
	tick := 0
	current := map[int]int{} // the event of each thread that has not responded
	done := map[int]bool{}   // the threads that make no more calls
	for i, c := range calls {
		if number(5) == 0 || done[c.Thread] {
			continue
		}
		if k, ok := current[c.Thread]; ok {
			tick += 1 + number(2)
			l[k].Resp = tick
			l[k].Steps = 1 + number(tick-l[k].Inv+1)
		}
		tick += 1 + number(2)
		current[c.Thread] = len(l)
		l = append(l, api.Event{Call: i, Inv: tick, Steps: 1})
		done[c.Thread] = number(10) == 0
	}
	for thread := range n {
		if k, ok := current[thread]; ok && number(2) == 0 {
			tick++
			l[k].Resp = tick
		}
	}
	return l, tick + number(2)
}

// 26.1: histories, histories of which one number was changed, and any events, as
// the chapter's definition says, pair by pair.
func TestRightAsDefined(t *testing.T) {
	number := trial.Numbers(51)
	stillRight, wrong := 0, 0
	for i := range 60000 {
		n := 1 + number(4)
		var calls []api.Call
		for range number(9) {
			calls = append(calls, api.Call{Thread: number(n)})
		}
		l, ticks := someHistory(number, n, calls)
		if i%3 == 0 && !history.Right(n, calls, l, ticks) {
			t.Fatalf("Right(%d, %v, %v, %d) is false", n, calls, l, ticks)
		}
		if i%3 == 1 && len(l) > 0 {
			x := &l[number(len(l))]
			field := []*int{&x.Call, &x.Inv, &x.Resp, &x.Steps, &n, &ticks}[number(6)]
			*field += number(5) - 2
		}
		if i%30 == 2 {
			l = anyEvents(number)
		}
		want := right(n, calls, l, ticks)
		if got := history.Right(n, calls, l, ticks); got != want {
			t.Fatalf("Right(%d, %v, %v, %d): %v", n, calls, l, ticks, got)
		}
		if want && i%3 == 1 {
			stillRight++
		}
		if !want && i%3 == 1 {
			wrong++
		}
	}
	if min(stillRight, wrong) < 2000 {
		t.Error("too few changes of a kind:", stillRight, wrong)
	}
}

// 26.1: the example of the chapter, events that touch, and those that do not exist.
func TestAhead(t *testing.T) {
	l := []api.Event{span(0, 1, 4), span(1, 2, 0), span(2, 4, 4), span(3, 5, 8), {Inv: 7, Resp: 3}, {Inv: 2, Resp: -1}}
	want := [][]int{
		{0, 0, 0, 1, 1, 0}, // up to 4
		{0, 0, 0, 0, 0, 0}, // it has not responded
		{0, 0, 0, 1, 1, 0},
		{0, 0, 0, 0, 0, 0},
		{0, 0, 1, 1, 1, 0}, // up to 3, from 7 on: it precedes itself, too
		{1, 1, 1, 1, 1, 1}, // a Resp below 0 is one
	}
	for i := range l {
		for k := range l {
			if got := history.Ahead(l, i, k); got != (want[i][k] == 1) {
				t.Errorf("Ahead of %v and %v: %v", l[i], l[k], got)
			}
		}
		for _, no := range []int{-1, len(l), math.MinInt, math.MaxInt} {
			if history.Ahead(l, i, no) || history.Ahead(l, no, i) || history.Ahead(l, no, no) {
				t.Errorf("an event %d", no)
			}
		}
	}
	if history.Ahead(nil, 0, 0) {
		t.Error("an event of none")
	}
	far := []api.Event{{Inv: math.MinInt, Resp: math.MinInt}, {Inv: math.MaxInt, Resp: math.MaxInt}, {Inv: math.MaxInt, Resp: math.MinInt}}
	if !history.Ahead(far, 0, 1) || history.Ahead(far, 1, 0) || history.Ahead(far, 0, 0) || history.Ahead(far, 1, 1) || !history.Ahead(far, 2, 2) {
		t.Error("far away")
	}
}

// 26.1: only a Resp of 0 says that an event has not responded.
func TestPending(t *testing.T) {
	l := []api.Event{span(0, 1, 0), span(1, 2, 3), {Resp: -1}, {Resp: math.MinInt}, {Inv: -4}, {Call: -1, Inv: math.MaxInt}, {Resp: math.MaxInt}}
	if p := history.Pending(l); !slices.Equal(p, []int{0, 4, 5}) {
		t.Error(p)
	}
	if p := history.Pending(l[1:4]); len(p) != 0 {
		t.Error(p)
	}
	if p := history.Pending(nil); len(p) != 0 {
		t.Error(p)
	}
}

// 26.2: the example of the chapter, and events that touch, are equal, contain each
// other, or contain nothing.
func TestWidth(t *testing.T) {
	for _, x := range []struct {
		want int
		l    []api.Event
	}{
		{0, nil},
		{1, []api.Event{span(0, 1, 1)}},
		{1, []api.Event{span(0, 1, 0)}},
		{2, []api.Event{span(0, 1, 4), span(1, 2, 0)}},
		{2, []api.Event{span(0, 1, 4), span(1, 4, 0)}},
		{1, []api.Event{span(0, 1, 4), span(1, 5, 0)}},
		{3, []api.Event{span(0, 1, 0), span(1, 5, 0), span(2, 7, 7)}},
		{2, []api.Event{span(0, 1, 0), span(1, 5, 6), span(2, 7, 7)}},
		{2, []api.Event{span(0, 1, 9), span(1, 2, 2), span(2, 3, 3), span(3, 4, 4)}},
		{3, []api.Event{span(0, 1, 3), span(1, 2, 4), span(2, 3, 5), span(3, 4, 6), span(4, 5, 7)}},
		{4, []api.Event{span(2, 3, 3), span(1, 3, 3), span(0, 3, 0), span(0, 1, 3)}},
		{2, []api.Event{span(2, 9, 0), span(1, 1, 5), span(0, 5, 5)}},
		{0, []api.Event{{Inv: 5, Resp: 3}}},
		{0, []api.Event{{Inv: 5, Resp: 3}, {Inv: 4, Resp: 2}}},
		{0, []api.Event{{Inv: 5, Resp: -1}}},
		// An event that contains nothing begins while others are in progress.
		{2, []api.Event{span(0, 1, 9), span(0, 4, 6), {Inv: 5, Resp: 3}}},
		{1, []api.Event{{Inv: 5, Resp: 3}, span(0, 4, 6)}},
		{2, []api.Event{{Inv: -5}, {Inv: 0}}},
		{2, []api.Event{{Inv: -5, Resp: -2}, {Inv: -3}}},
		{1, []api.Event{{Inv: -5, Resp: -2}, {Inv: -1}}},
		{2, []api.Event{{Inv: math.MinInt}, {Inv: math.MaxInt}}},
		{2, []api.Event{{Inv: math.MinInt, Resp: math.MaxInt}, {Inv: math.MaxInt, Resp: math.MaxInt}}},
		{1, []api.Event{{Inv: math.MinInt, Resp: math.MaxInt - 1}, {Inv: math.MaxInt, Resp: math.MaxInt}}},
	} {
		if got := history.Width(x.l); got != x.want || width(x.l) != x.want {
			t.Errorf("%v: %d; want %d", x.l, got, x.want)
		}
	}
	number := trial.Numbers(52)
	for range 20000 {
		l := anyEvents(number)
		if got := history.Width(l); got != width(l) {
			t.Fatalf("%v: %d; want %d", l, got, width(l))
		}
	}
}

// 26.2: many events, each of which extends over five ticks.
func TestWidthOfMany(t *testing.T) {
	var l []api.Event
	for i := range 300000 {
		l = append(l, span(0, i+1, i+5))
	}
	if got := history.Width(l); got != 5 {
		t.Error(got)
	}
	if !history.Right(5, threads(0), l[:1], 5) || history.Right(5, threads(0), l, 300004) {
		t.Error("Right")
	}
}

// 26.2: the events of a thread, in the order of the list; calls that there are not
// belong to no thread.
func TestOf(t *testing.T) {
	calls := threads(0, 1, 0, -3, 99, 1)
	l := []api.Event{{Call: 5}, {Call: 2}, {Call: 0}, {Call: 2}, {Call: 6}, {Call: -1}, {Call: 3}, {Call: 1}, {Call: math.MaxInt}, {Call: math.MinInt}, {Call: 4}}
	for thread, want := range map[int][]int{0: {1, 2, 3}, 1: {0, 7}, -3: {6}, 99: {10}, 2: nil, -1: nil, 16: nil, math.MaxInt: nil, math.MinInt: nil} {
		if o := history.Of(calls, l, thread); !slices.Equal(o, want) {
			t.Errorf("thread %d: %v; want %v", thread, o, want)
		}
	}
	if o := history.Of(nil, l, 0); len(o) != 0 {
		t.Error(o)
	}
	if o := history.Of(calls, nil, 0); len(o) != 0 {
		t.Error(o)
	}
}

// R4: the arguments remain what they are, with their spare capacity, and results
// are new each time.
func TestAlone(t *testing.T) {
	calls := append(make([]api.Call, 0, 6), threads(1, 0, 1)...)
	l := append(make([]api.Event, 0, 6), span(1, 5, 0), span(0, 1, 3), api.Event{Call: 2, Inv: 3, Answer: api.Answer{List: []uint64{1}}, Key: []int{4}})
	callsBefore, before := slices.Clone(calls[:6]), slices.Clone(l[:6])
	before[2].Answer.List, before[2].Key = []uint64{1}, []int{4}
	history.Right(2, calls, l, 9)
	history.Ahead(l, 0, 1)
	history.Width(l)
	for _, list := range []func() []int{
		func() []int { return history.Pending(l) },
		func() []int { return history.Of(calls, l, 1) },
	} {
		first, second := list(), list()
		first[0]++
		if slices.Equal(first, second) || !slices.Equal(list(), second) {
			t.Error(first, second)
		}
	}
	if !slices.Equal(calls[:6], callsBefore) || !reflect.DeepEqual(l[:6], before) {
		t.Error(calls[:6], l[:6])
	}
}
