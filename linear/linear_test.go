package linear_test

import (
	"math"
	"slices"
	"testing"

	"roundelay/api"
	"roundelay/linear"
	"roundelay/trial"
)

// event makes an event of a call, with one step.
func event(call, inv, resp int, a api.Answer, key ...int) api.Event {
	return api.Event{Call: call, Inv: inv, Resp: resp, Steps: 1, Answer: a, Key: key}
}

// span makes an event of which only the ticks and the key matter.
func span(inv, resp int, key ...int) api.Event {
	return event(0, inv, resp, api.Answer{}, key...)
}

// val is an answer with a number, and fail is one with an error.
func val(v uint64) api.Answer     { return api.Answer{Val: v} }
func fail(e api.Errno) api.Answer { return api.Answer{Err: e} }

// 28.1: events without a key, equal keys, and keys that begin as others do.
func TestOrder(t *testing.T) {
	for _, x := range []struct {
		l    []api.Event
		want []int
	}{
		{nil, nil},
		{[]api.Event{}, nil},
		{[]api.Event{span(1, 2), span(3, 0)}, nil},
		{[]api.Event{span(1, 2, []int{}...), span(3, 4, 0)}, []int{1}},
		{[]api.Event{span(1, 2, 4), span(3, 4), span(5, 0, 3)}, []int{2, 0}},
		{[]api.Event{span(5, 5, 4), span(1, 1, 4), span(3, 3, 4), span(2, 2, 3)}, []int{3, 0, 1, 2}},
		{[]api.Event{span(1, 1, 5), span(1, 1, 4, 0), span(1, 1, 4), span(1, 1, 4, -1), span(1, 1, -4, 9)}, []int{4, 2, 3, 1, 0}},
		{[]api.Event{span(1, 1, math.MaxInt), span(1, 1, math.MinInt), span(1, 1), span(1, 1, 0)}, []int{1, 3, 0}},
	} {
		given := slices.Clone(x.l)
		if o := linear.Order(x.l); !slices.Equal(o, x.want) || !trial.SameEvents(x.l, given) {
			t.Errorf("Order(%v): %v; want %v", x.l, o, x.want)
		}
	}
}

// 28.1: events that precede others, or themselves, and such that touch.
func TestAhead(t *testing.T) {
	for i, x := range []struct {
		l    []api.Event
		want bool
	}{
		{nil, true},
		{[]api.Event{span(1, 2, 4), span(3, 3, 6)}, true},
		{[]api.Event{span(1, 2, 4), span(3, 3, 4, 0)}, true},
		{[]api.Event{span(1, 2, 4), span(3, 3, 4)}, false},
		{[]api.Event{span(3, 3, 4), span(1, 2, 4)}, false},
		{[]api.Event{span(1, 2, 9), span(3, 3, 4)}, false},
		{[]api.Event{span(1, 3, 9), span(3, 3, 4)}, true},
		{[]api.Event{span(1, 0, 9), span(3, 3, 4)}, true},
		{[]api.Event{span(1, 2, 9), span(3, 0, 4)}, false},
		{[]api.Event{span(1, 2), span(3, 3, 4)}, true},
		{[]api.Event{span(1, 2, 9), span(3, 3)}, true},
		{[]api.Event{span(2, 1, 4)}, false},
		{[]api.Event{span(2, 1)}, true},
		{[]api.Event{span(2, -1, 4)}, false},
		{[]api.Event{span(2, 0, 4)}, true},
		{[]api.Event{span(1, 1, 2), span(4, 3, 8), span(5, 5, 9)}, false},
		{[]api.Event{span(1, 1, 2), span(4, 3), span(5, 5, 9)}, true},
		{[]api.Event{span(4, 3), span(2, 2, 4)}, true},
		// The first one that responds has no key, or the key that precedes.
		{[]api.Event{span(1, 1), span(2, 5, 9), span(3, 9, 8)}, true},
		{[]api.Event{span(1, 1, 2), span(2, 5, 9), span(3, 9, 8)}, true},
		{[]api.Event{span(1, 1, 2), span(2, 5, 9), span(6, 9, 8)}, false},
		{[]api.Event{span(1, 1, 2), span(2, 5, 9), span(6, 9, 9)}, false},
		{[]api.Event{span(1, 1, 2), span(2, 5, 9), span(6, 9, 9, 0)}, true},
		{[]api.Event{span(1, math.MaxInt, 9), span(math.MaxInt, 0, 4)}, true},
		{[]api.Event{span(1, math.MaxInt-1, 9), span(math.MaxInt, 0, 4)}, false},
		{[]api.Event{span(math.MinInt, math.MinInt, 9), span(math.MaxInt, math.MaxInt, 4)}, false},
		{[]api.Event{span(math.MinInt, math.MinInt, 4), span(math.MaxInt, math.MaxInt, 9)}, true},
	} {
		given := slices.Clone(x.l)
		if linear.Ahead(x.l) != x.want || !trial.SameEvents(x.l, given) {
			t.Errorf("%d: Ahead(%v) is not %v", i, x.l, x.want)
		}
	}
}

// ahead is the chapter's definition, pair by pair.
func ahead(l []api.Event) bool {
	for i, x := range l {
		for k, y := range l {
			if len(x.Key) == 0 || len(y.Key) == 0 || x.Resp == 0 || x.Resp >= y.Inv {
				continue
			}
			if i == k || slices.Compare(x.Key, y.Key) >= 0 {
				return false
			}
		}
	}
	return true
}

// someEvents makes events whose keys are mostly about the moments when they are.
func someEvents(number func(below int) int) []api.Event {
	var l []api.Event
	for range number(12) {
		inv := number(30)
		x := span(inv, inv+number(12))
		switch number(8) {
		case 0:
			x.Resp = 0
		case 1:
			x.Resp -= number(3)
		}
		moment := 2*inv + number(2*max(x.Resp-inv, 0)+1)
		switch number(8) {
		case 0:
		case 1:
			x.Key = []int{moment, number(2)}
		case 2:
			x.Key = []int{moment + number(20) - 10}
		default:
			x.Key = []int{moment}
		}
		l = append(l, x)
	}
	return l
}

// 28.1: any events, as the chapter's definition says, pair by pair.
func TestAheadAsDefined(t *testing.T) {
	number := trial.Numbers(64)
	kept, lost := 0, 0
	for range 100000 {
		l := someEvents(number)
		want := ahead(l)
		if linear.Ahead(l) != want {
			t.Fatalf("Ahead(%v) is not %v", l, want)
		}
		if want && len(l) > 4 {
			kept++
		} else if !want {
			lost++
		}
	}
	if min(kept, lost) < 5000 {
		t.Error("too few events of a kind:", kept, lost)
	}
}

// isWrong tells whether Wrong returns a number and an error, and leaves its arguments
// as they are.
func isWrong(n int, specs []api.Spec, calls []api.Call, l []api.Event, want int, e api.Errno) bool {
	givenSpecs, givenCalls, given := slices.Clone(specs), slices.Clone(calls), slices.Clone(l)
	i, err := linear.Wrong(n, specs, calls, l)
	kept := slices.Equal(specs, givenSpecs) && slices.Equal(calls, givenCalls) && trial.SameEvents(l, given)
	return i == want && err == e && kept
}

// 28.2: the example: of two operations that take the same single value, the later one
// is wrong, whatever the order of the events is.
func TestWrongExample(t *testing.T) {
	specs := []api.Spec{{Kind: api.Queue, P: 2}}
	calls := []api.Call{{Thread: 0, A: 5}, {Thread: 0, Kind: 1}, {Thread: 1, Kind: 1}}
	l := []api.Event{event(0, 1, 2, val(0), 4), event(1, 3, 9, val(5), 12), event(2, 4, 9, val(5), 10)}
	if !isWrong(2, specs, calls, l, 1, api.OK) {
		t.Error(linear.Wrong(2, specs, calls, l))
	}
	l[2].Key = []int{12, 1}
	if !isWrong(2, specs, calls, l, 2, api.OK) {
		t.Error(linear.Wrong(2, specs, calls, l))
	}
	l[2].Key = []int{12}
	if !isWrong(2, specs, calls, l, 2, api.OK) {
		t.Error(linear.Wrong(2, specs, calls, l))
	}
	l[2].Answer = fail(api.ErrEmpty)
	if !isWrong(2, specs, calls, l, -1, api.OK) {
		t.Error(linear.Wrong(2, specs, calls, l))
	}
	l[2].Key = []int{3}
	if !isWrong(2, specs, calls, l, -1, api.OK) {
		t.Error(linear.Wrong(2, specs, calls, l))
	}
	l[0].Key = []int{2}
	if !isWrong(2, specs, calls, l, 2, api.OK) {
		t.Error(linear.Wrong(2, specs, calls, l))
	}
}

// 28.2: what has not responded takes effect if it has a key, and is never wrong.
func TestWrongPending(t *testing.T) {
	specs := []api.Spec{{Kind: api.Queue, P: 2}, {Kind: api.Univ, P: 2, Q: 2}}
	calls := []api.Call{{Thread: 0, A: 5}, {Thread: 1, Kind: 1}, {Thread: 2, A: 1 << 24}, {Thread: 3, Obj: 1, Kind: 1}, {Thread: 0, Obj: 1, A: 7}, {Thread: 1, Obj: 1, A: 8}}
	for _, x := range []struct {
		l    []api.Event
		want int
	}{
		{[]api.Event{event(0, 1, 0, val(0), 2), event(1, 2, 3, val(5), 6)}, -1},
		{[]api.Event{event(0, 1, 0, val(0), 6, 1), event(1, 2, 3, val(5), 6)}, 1},
		{[]api.Event{event(0, 1, 0, val(0)), event(1, 2, 3, val(5), 6)}, 1},
		{[]api.Event{event(0, 1, 0, val(0)), event(1, 2, 3, fail(api.ErrEmpty), 6)}, -1},
		{[]api.Event{event(0, 1, 0, val(0), 2), event(1, 2, 3, fail(api.ErrEmpty), 6)}, 1},
		// Its answer does not matter.
		{[]api.Event{event(0, 1, 0, fail(api.ErrState), 2), event(1, 2, 3, val(5), 6)}, -1},
		{[]api.Event{event(0, 1, 0, fail(api.ErrFull), 2), event(1, 2, 3, val(5), 6)}, -1},
		// What is an error changes nothing, except that an entry of a log is taken.
		{[]api.Event{event(2, 1, 0, val(0), 2), event(1, 2, 3, fail(api.ErrEmpty), 6)}, -1},
		{[]api.Event{event(2, 1, 0, val(0), 2), event(1, 2, 3, val(1<<24), 6)}, 1},
		{[]api.Event{event(3, 1, 0, val(0), 2), event(4, 2, 3, val(0), 6), event(5, 4, 4, val(0), 8)}, 2},
		{[]api.Event{event(3, 1, 0, val(0), 2), event(4, 2, 3, val(0), 6), event(5, 4, 4, fail(api.ErrFull), 8)}, -1},
		{[]api.Event{event(3, 1, 0, val(0)), event(4, 2, 3, val(0), 6), event(5, 4, 4, val(0), 8)}, -1},
		// A Resp below 0 is one.
		{[]api.Event{event(0, 1, -1, val(1), 2)}, 0},
	} {
		if !isWrong(4, specs, calls, x.l, x.want, api.OK) {
			i, e := linear.Wrong(4, specs, calls, x.l)
			t.Errorf("Wrong(%v): %d, %v; want %d", x.l, i, e, x.want)
		}
	}
}

// 28.2: calls for objects that do not exist: just ErrObj is right.
func TestWrongNoObject(t *testing.T) {
	for _, obj := range []int{math.MinInt, -1, 1, 8, math.MaxInt} {
		specs := []api.Spec{{Kind: api.Tally}}
		calls := []api.Call{{Obj: obj}, {}, {Kind: 1}}
		for _, x := range []struct {
			a    api.Answer
			want int
		}{
			{fail(api.ErrObj), -1},
			{api.Answer{Err: api.ErrObj, List: []uint64{}}, -1},
			{api.Answer{Err: api.ErrObj, Val: 1}, 1},
			{api.Answer{Err: api.ErrObj, List: []uint64{0}}, 1},
			{val(0), 1},
			{fail(api.ErrArg), 1},
			{fail(api.ErrKind), 1},
		} {
			l := []api.Event{event(1, 1, 2, val(0), 2), event(0, 3, 3, x.a, 6), event(2, 4, 4, val(1), 8)}
			if !isWrong(1, specs, calls, l, x.want, api.OK) {
				i, e := linear.Wrong(1, specs, calls, l)
				t.Errorf("Wrong(%v): %d, %v; want %d", l, i, e, x.want)
			}
			l[1].Resp = 0
			if !isWrong(1, specs, calls, l, -1, api.OK) {
				i, e := linear.Wrong(1, specs, calls, l)
				t.Errorf("Wrong(%v): %d, %v; it has not responded", l, i, e)
			}
		}
	}
	l := []api.Event{event(0, 1, 1, fail(api.ErrObj), 2)}
	if !isWrong(1, nil, []api.Call{{}}, l, -1, api.OK) || !isWrong(1, nil, nil, nil, -1, api.OK) {
		t.Error("no objects")
	}
	// An object that exists never has ErrObj.
	if !isWrong(1, []api.Spec{{Kind: api.Tally}}, []api.Call{{}}, l, 0, api.OK) {
		t.Error("an object that exists")
	}
}

// 28.2: events of one object do not matter to another one of its Kind; events without
// a key have no effect, and the first wrong one is the one whose key comes first.
func TestWrongFirst(t *testing.T) {
	specs := []api.Spec{{Kind: api.Adder}, {Kind: api.Adder}}
	calls := []api.Call{{Kind: 2}, {Kind: 2, Obj: 1}, {Kind: 2}, {Kind: 2, Obj: 1}}
	events := func(vals ...uint64) []api.Event {
		var l []api.Event
		for i, v := range vals {
			l = append(l, event(i, i+1, i+1, val(v), 2*i+2))
		}
		return l
	}
	for _, x := range []struct {
		vals []uint64
		want int
	}{
		{[]uint64{0, 0, 1, 1}, -1},
		{[]uint64{0, 1, 1, 1}, 1},
		{[]uint64{0, 0, 1, 2}, 3},
		{[]uint64{0, 0, 2, 2}, 2},
		{[]uint64{1, 1, 2, 2}, 0},
		{[]uint64{0, 0, 1}, -1},
	} {
		l := events(x.vals...)
		if !isWrong(1, specs, calls, l, x.want, api.OK) {
			i, e := linear.Wrong(1, specs, calls, l)
			t.Errorf("Wrong(%v): %d, %v; want %d", l, i, e, x.want)
		}
	}
	l := events(5, 0, 5, 5)
	l[0].Key, l[3].Key, l[2].Key, l[1].Key = []int{9}, []int{8}, []int{7, 1}, []int{7}
	if !isWrong(1, specs, calls, l, 2, api.OK) {
		t.Error(linear.Wrong(1, specs, calls, l))
	}
	l[2].Resp, l[2].Key = 0, nil
	if !isWrong(1, specs, calls, l, 3, api.OK) {
		t.Error(linear.Wrong(1, specs, calls, l))
	}
	// The same call may have several events.
	twice := []api.Event{event(0, 1, 1, val(1), 4), event(0, 1, 1, val(0), 2)}
	if !isWrong(1, specs, calls, twice, -1, api.OK) {
		t.Error(linear.Wrong(1, specs, calls, twice))
	}
}

// 28.2: a queue may be full for a thread of which there are enough values in it.
func TestWrongFull(t *testing.T) {
	specs := []api.Spec{{Kind: api.Queue, P: 4}}
	calls := []api.Call{{Thread: 0, A: 1}, {Thread: 1, A: 2}, {Thread: 0, A: 3}, {Thread: 1, A: 4}, {Thread: 0, Kind: 1}}
	full, put := fail(api.ErrFull), val(0)
	for _, x := range []struct {
		answers []api.Answer
		want    int
	}{
		{[]api.Answer{put, put, full, full, val(1)}, -1},
		{[]api.Answer{full, put, put, put, val(2)}, 0},
		{[]api.Answer{put, full, put, full, val(1)}, 1},
		{[]api.Answer{put, put, full, full, val(3)}, 4},
		{[]api.Answer{put, put, full, full, full}, 4},
	} {
		var l []api.Event
		for i, a := range x.answers {
			l = append(l, event(i, i+1, i+1, a, 2*i+2))
		}
		if !isWrong(2, specs, calls, l, x.want, api.OK) {
			i, e := linear.Wrong(2, specs, calls, l)
			t.Errorf("Wrong(%v): %d, %v; want %d", l, i, e, x.want)
		}
	}
}

// 28.2: the errors: that of Lay first, and any event that is not well formed before
// one that is wrong.
func TestWrongErrors(t *testing.T) {
	tally := []api.Spec{{Kind: api.Tally}}
	big := api.Spec{Kind: api.Snap, P: 64}
	calls := []api.Call{{}, {Thread: 1}, {Thread: 2}, {Thread: -1}, {Thread: math.MaxInt}}
	good := event(0, 1, 1, val(0), 2)
	wrong := event(0, 1, 1, val(7), 2)
	formless := []api.Event{
		event(-1, 2, 2, val(0), 4), event(5, 2, 2, val(0), 4), event(math.MinInt, 2, 2, val(0), 4), event(math.MaxInt, 2, 2, val(0), 4),
		event(2, 2, 2, val(0), 4), event(3, 2, 2, val(0), 4), event(4, 2, 2, val(0), 4),
		event(-1, 2, 0, val(0)), event(2, 2, 0, val(0)), event(3, 2, 0, val(0), 4),
		event(0, 2, 2, val(0)), event(1, 2, -1, val(0)), event(1, 2, 2, val(0), []int{}...),
	}
	for _, x := range formless {
		for _, l := range [][]api.Event{{x}, {good, x}, {x, good}, {wrong, x}, {x, wrong, x}} {
			if !isWrong(2, tally, calls, l, -1, api.ErrForm) {
				i, e := linear.Wrong(2, tally, calls, l)
				t.Errorf("Wrong(%v): %d, %v", l, i, e)
			}
		}
	}
	for _, q := range []struct {
		n     int
		specs []api.Spec
		want  api.Errno
	}{
		{0, tally, api.ErrArg},
		{-1, nil, api.ErrArg},
		{17, make([]api.Spec, 9), api.ErrArg},
		{2, make([]api.Spec, 9), api.ErrLong},
		{2, []api.Spec{{Kind: 10}, {Kind: api.Max}}, api.ErrKind},
		{2, []api.Spec{{Kind: api.Max}, {Kind: 10}}, api.ErrRange},
		{16, []api.Spec{big, big, big, big}, api.ErrLong},
		{16, []api.Spec{big, big, big, big, {Kind: 10}}, api.ErrKind},
	} {
		for _, l := range [][]api.Event{nil, {good}, {wrong}, formless} {
			if !isWrong(q.n, q.specs, calls, l, -1, q.want) {
				i, e := linear.Wrong(q.n, q.specs, calls, l)
				t.Errorf("Wrong(%d, %v, %v): %d, %v; want %v", q.n, q.specs, l, i, e, q.want)
			}
		}
	}
	// Calls without an event may be of any thread.
	if !isWrong(2, tally, calls, []api.Event{good, event(1, 2, 0, val(0))}, -1, api.OK) {
		t.Error("a thread that makes no event")
	}
}

// 28.3: a report that is whole, of which one thing is changed.
func TestWhole(t *testing.T) {
	specs := []api.Spec{{Kind: api.Adder}}
	calls := []api.Call{{Kind: 2}, {Thread: 1, Kind: 2}, {Thread: 0, Kind: 1}, {Thread: 2, Kind: 2}}
	good := func() api.Report {
		return api.Report{Ticks: 9, Events: []api.Event{
			event(0, 1, 3, val(1), 5), event(1, 2, 4, val(0), 4), event(2, 5, 7, val(3), 14), event(3, 6, 0, val(0), 12),
		}}
	}
	r := good()
	if !linear.Whole(3, specs, calls, r) || !trial.SameReport(r, good()) {
		t.Fatal("it is not")
	}
	for i, right := range []func(r *api.Report){
		func(r *api.Report) { r.Words, r.Counts.Fault, r.Idle = []uint64{9}, 7, -4 },
		func(r *api.Report) { r.Events[3].Key = []int{13, 9} },
		func(r *api.Report) { r.Events[3].Key, r.Events[2].Answer.Val = nil, 2 },
		func(r *api.Report) { r.Events[3].Key, r.Events[2].Answer.Val = []int{18}, 2 },
		func(r *api.Report) { r.Events[3].Key, r.Events[2].Answer.Val = []int{17, 5}, 2 },
		func(r *api.Report) { r.Ticks = math.MaxInt },
		func(r *api.Report) { r.Events = nil },
	} {
		r := good()
		if right(&r); !linear.Whole(3, specs, calls, r) {
			t.Errorf("change %d: %v", i, r)
		}
	}
	for i, spoil := range []func(r *api.Report){
		func(r *api.Report) { r.Ticks = 6 }, // no history
		func(r *api.Report) { r.Events[0].Steps = 0 },
		func(r *api.Report) { r.Events[2].Call = 4 },
		func(r *api.Report) { r.Events[1].Inv = 1 },
		func(r *api.Report) { r.Events[1].Key = []int{3} }, // a key that is not within its event
		func(r *api.Report) { r.Events[2].Key = []int{15} },
		func(r *api.Report) { r.Events[3].Key = []int{11} },
		func(r *api.Report) { r.Events[3].Key, r.Events[2].Answer.Val = []int{19}, 2 },
		func(r *api.Report) { r.Events[2].Key = nil },      // no key
		func(r *api.Report) { r.Events[1].Key = []int{6} }, // wrong
		func(r *api.Report) { r.Events[0].Answer.Val = 0 },
		func(r *api.Report) { r.Events[2].Answer.Val = 2 },
		func(r *api.Report) { r.Events[3].Key = nil },
		func(r *api.Report) { r.Events[0].Answer.List = []uint64{0} },
	} {
		r := good()
		if spoil(&r); linear.Whole(3, specs, calls, r) {
			t.Errorf("change %d: %v", i, r)
		}
	}
	for _, n := range []int{math.MinInt, 0, 2, 17, math.MaxInt} {
		if linear.Whole(n, specs, calls, good()) {
			t.Error("threads:", n)
		}
	}
	if linear.Whole(3, []api.Spec{{Kind: api.Tally}}, calls, good()) || linear.Whole(3, []api.Spec{{Kind: 10}}, calls, good()) {
		t.Error("another object")
	}
	if linear.Whole(0, nil, nil, api.Report{}) || linear.Whole(1, make([]api.Spec, 9), nil, api.Report{}) || !linear.Whole(1, nil, nil, api.Report{}) {
		t.Error("an empty report")
	}
}

// 28.3: keys at the ends of their events, and just outside of them; the order of the
// keys is always that of the events, and no answer is wrong.
func TestWholeWithin(t *testing.T) {
	specs := []api.Spec{{Kind: api.Adder}}
	calls := []api.Call{{Thread: 0, Kind: 1}, {Thread: 1, Kind: 1}}
	for _, x := range []struct {
		first, second []int
		want          bool
	}{
		{[]int{4}, []int{6}, true},
		{[]int{4, 9}, []int{6, 0}, true},
		{[]int{2}, []int{8}, true},
		{[]int{3, 7}, []int{7, -1}, true},
		{[]int{4}, []int{5}, false},
		{[]int{5}, []int{6}, false},
		{[]int{1}, []int{6}, false},
		{[]int{-2}, []int{6}, false},
		{[]int{4}, []int{9}, false},
	} {
		r := api.Report{Ticks: 4, Events: []api.Event{event(0, 1, 2, val(0), x.first...), event(1, 3, 4, val(0), x.second...)}}
		if linear.Whole(2, specs, calls, r) != x.want {
			t.Errorf("%v and %v: not %v", x.first, x.second, x.want)
		}
		r.Events[1].Resp = 0
		if linear.Whole(2, specs, calls, r) != x.want {
			t.Errorf("%v and %v, pending: not %v", x.first, x.second, x.want)
		}
	}
}
