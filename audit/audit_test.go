package audit_test

import (
	"math"
	"math/big"
	"slices"
	"testing"

	"roundelay/api"
	"roundelay/audit"
	"roundelay/history"
	"roundelay/keys"
	"roundelay/linear"
	"roundelay/table"
	"roundelay/trial"
)

const (
	least    = math.MinInt
	greatest = math.MaxInt
)

// flaws makes flaws, of which each has two numbers.
func flaws(numbers ...int) []audit.Flaw {
	var l []audit.Flaw
	for pair := range slices.Chunk(numbers, 2) {
		l = append(l, audit.Flaw{What: pair[0], At: pair[1]})
	}
	return l
}

// specs, calls and good are a play without a flaw: thread 0 counts while thread 1 takes
// a ticket; thread 1 reads the count; thread 0 begins to count again.
func specs() []api.Spec {
	return []api.Spec{{Kind: api.Tally}, {Kind: api.Adder}}
}

func calls() []api.Call {
	return []api.Call{{Thread: 0}, {Thread: 1, Obj: 1, Kind: 2}, {Thread: 1, Kind: 1}, {Thread: 0}, {Thread: 1, Obj: 2}}
}

func good() api.Report {
	return api.Report{
		Events: []api.Event{
			{Call: 0, Inv: 1, Resp: 3, Steps: 2, Key: []int{4}},
			{Call: 1, Inv: 2, Resp: 2, Steps: 1, Key: []int{4}},
			{Call: 2, Inv: 4, Resp: 5, Steps: 2, Answer: api.Answer{Val: 1}, Key: []int{9}},
			{Call: 3, Inv: 6, Steps: 1},
		},
		Words:  []uint64{1, 0, 1},
		Counts: api.Counts{Read: 3, Write: 1, Add: 1},
		Ticks:  6,
		Idle:   2,
	}
}

// spoil is a change of a report, and the flaws that it then has.
type spoil struct {
	change func(r *api.Report)
	want   []audit.Flaw
}

// checkSpoils compares the flaws of changed reports.
func checkSpoils(t *testing.T, n int, specs []api.Spec, calls []api.Call, l []spoil) {
	t.Helper()
	for i, x := range l {
		r := good()
		x.change(&r)
		if got := audit.Check(n, specs, calls, r); !slices.Equal(got, x.want) {
			t.Errorf("%d: %v; want %v", i, got, x.want)
		}
	}
}

// 34.1: the examples of the chapter, and reports of nothing.
func TestNothing(t *testing.T) {
	for _, x := range []struct {
		r    api.Report
		want []audit.Flaw
	}{
		{api.Report{}, nil},
		{api.Report{Events: []api.Event{}, Words: []uint64{5}, Idle: 9}, nil},
		{api.Report{Ticks: 1}, flaws(7, -1)},
		{api.Report{Ticks: greatest}, flaws(7, -1)},
		{api.Report{Ticks: -1}, flaws(7, -1, 8, -1)},
		{api.Report{Ticks: least}, flaws(7, -1, 8, -1)},
		{api.Report{Counts: api.Counts{Read: 1}}, flaws(8, -1)},
		{api.Report{Idle: least}, nil},
	} {
		if l := audit.Check(1, nil, nil, x.r); !slices.Equal(l, x.want) {
			t.Errorf("%v: %v; want %v", x.r, l, x.want)
		}
	}
	if l := audit.Check(2, specs(), calls(), good()); len(l) != 0 {
		t.Error(l)
	}
	if l := audit.Check(api.MaxThreads, specs(), calls(), api.Report{}); len(l) != 0 {
		t.Error(l)
	}
}

// 34.1: objects that Lay does not place, whatever else is wrong.
func TestTable(t *testing.T) {
	spoiled := good()
	spoiled.Events[0].Key, spoiled.Events[2].Answer.Val, spoiled.Ticks, spoiled.Counts.Fault = nil, 7, 2, 1
	for _, x := range []struct {
		n     int
		specs []api.Spec
	}{
		{0, nil}, {-1, specs()}, {17, specs()}, {least, nil}, {greatest, specs()},
		{2, make([]api.Spec, 9)},
		{2, []api.Spec{{Kind: api.Tally}, {Kind: 10}}},
		{2, []api.Spec{{Kind: -1}}},
		{2, []api.Spec{{Kind: api.Tally}, {Kind: api.Max}}},
		{2, []api.Spec{{Kind: api.Queue, P: 1, Q: 4}}},
		{16, slices.Repeat([]api.Spec{{Kind: api.Snap, P: 64}}, 8)},
	} {
		for _, r := range []api.Report{{}, good(), spoiled} {
			if l := audit.Check(x.n, x.specs, calls(), r); !slices.Equal(l, flaws(1, -1)) {
				t.Errorf("%d, %v: %v", x.n, x.specs, l)
			}
		}
	}
}

// 34.1: events that are no history, whatever else is wrong.
func TestHistory(t *testing.T) {
	checkSpoils(t, 2, specs(), calls(), []spoil{
		{func(r *api.Report) { r.Events[0].Call = -1 }, flaws(2, -1)},
		{func(r *api.Report) { r.Events[3].Call = 5 }, flaws(2, -1)},
		{func(r *api.Report) { r.Events[3].Call = 0 }, flaws(2, -1)},
		{func(r *api.Report) { r.Events[0].Inv = 0 }, flaws(2, -1)},
		{func(r *api.Report) { r.Events[1].Inv = 1 }, flaws(2, -1)},
		{func(r *api.Report) { r.Events[2].Resp = 7 }, flaws(2, -1)},
		{func(r *api.Report) { r.Events[2].Resp = 3 }, flaws(2, -1)},
		{func(r *api.Report) { r.Events[0].Resp = -1 }, flaws(2, -1)},
		{func(r *api.Report) { r.Events[1].Resp = 4 }, flaws(2, -1)},
		{func(r *api.Report) { r.Events[3].Steps = 0 }, flaws(2, -1)},
		{func(r *api.Report) { r.Events[1].Steps = 2 }, flaws(2, -1)},
		{func(r *api.Report) { r.Ticks = 5 }, flaws(2, -1)},
		{func(r *api.Report) { r.Ticks = 0 }, flaws(2, -1)},
		{func(r *api.Report) { r.Ticks = least }, flaws(2, -1)},
		{func(r *api.Report) { slices.Reverse(r.Events) }, flaws(2, -1)},
		{func(r *api.Report) { r.Ticks, r.Counts.Fault, r.Events[0].Key = 5, 1, nil }, flaws(2, -1)},
	})
	if l := audit.Check(1, specs(), calls(), good()); !slices.Equal(l, flaws(2, -1)) {
		t.Error(l)
	}
	if l := audit.Check(2, specs(), calls()[:3], good()); !slices.Equal(l, flaws(2, -1)) {
		t.Error(l)
	}
}

// 34.1: steps at, above and below the bounds of operations that have responded, and of
// those that have not.
func TestBound(t *testing.T) {
	for _, x := range []struct {
		specs []api.Spec
		call  api.Call
		most  int
	}{
		{specs(), api.Call{}, 2},
		{specs(), api.Call{Kind: 1}, 2},
		{specs(), api.Call{Obj: 1}, 1},
		{specs(), api.Call{Kind: 2}, 1},
		{specs(), api.Call{Kind: -1}, 1},
		{specs(), api.Call{Kind: greatest}, 1},
		{specs(), api.Call{Kind: least}, 1},
		{specs(), api.Call{Obj: 2}, 1},
		{specs(), api.Call{Obj: -1}, 1},
		{specs(), api.Call{Obj: greatest}, 1},
		{specs(), api.Call{Obj: least}, 1},
		{nil, api.Call{}, 1},
		{[]api.Spec{{Kind: api.Cons}}, api.Call{}, 2},
		{[]api.Spec{{Kind: api.Cons}}, api.Call{Kind: 1}, 1},
		{[]api.Spec{{Kind: api.Snap, P: 1}}, api.Call{}, 12},
		{[]api.Spec{{Kind: api.Snap, P: 1}}, api.Call{Kind: 1}, 8},
		{[]api.Spec{{Kind: api.Cons}, {Kind: api.Queue, P: 3, Q: 1}}, api.Call{Obj: 1, Kind: 1}, 756},
	} {
		hasFlaw := func(e api.Event, ticks int) bool {
			l := audit.Check(2, x.specs, []api.Call{x.call}, api.Report{Events: []api.Event{e}, Ticks: ticks})
			return slices.Contains(l, audit.Flaw{What: 3})
		}
		for _, steps := range []int{1, max(1, x.most-1), x.most, x.most + 1, 2 * x.most, greatest} {
			if hasFlaw(api.Event{Inv: 1, Resp: steps, Steps: steps, Key: []int{2}}, steps) != (steps > x.most) {
				t.Errorf("%v, %v: %d steps", x.specs, x.call, steps)
			}
			if hasFlaw(api.Event{Inv: 1, Steps: steps}, greatest) != (steps >= x.most) {
				t.Errorf("%v, %v: %d steps, without a response", x.specs, x.call, steps)
			}
		}
	}
	checkSpoils(t, 2, specs(), calls(), []spoil{
		{func(r *api.Report) { r.Events[3].Steps, r.Ticks = 2, 7 }, flaws(3, 3)},
		{func(r *api.Report) { r.Events[0].Steps, r.Ticks = 3, 7 }, flaws(3, 0)},
		{func(r *api.Report) { r.Events[0].Steps, r.Ticks, r.Events[3].Steps = 3, 8, 2 }, flaws(3, 0, 3, 3)},
	})
}

// 34.1: keys that are missing, or not within their events, with the flaws that follow.
func TestKey(t *testing.T) {
	key := func(i int, k ...int) func(r *api.Report) {
		return func(r *api.Report) { r.Events[i].Key = k }
	}
	checkSpoils(t, 2, specs(), calls(), []spoil{
		{key(0), flaws(4, 0)},
		{key(1, []int{}...), flaws(4, 1)},
		{key(0, 1), flaws(4, 0)},
		{key(0, 2), nil},
		{key(0, 6), nil},
		{key(0, 6, -5, 3), nil},
		{key(0, 7), flaws(4, 0)},
		{key(0, -4), flaws(4, 0)},
		{key(0, least), flaws(4, 0)},
		{key(2, 7), flaws(4, 2)},
		{key(2, 8), nil},
		{key(2, 10), nil},
		{key(2, 11), flaws(4, 2)},
		{key(2, greatest), flaws(4, 2)},
		// A key of an event that has not responded is within the ticks.
		{key(3, 11), flaws(4, 3)},
		{key(3, 12), nil},
		{key(3, 13), flaws(4, 3)},
		{key(3, greatest), flaws(4, 3)},
		{func(r *api.Report) { r.Events[0].Key, r.Events[2].Key, r.Events[3].Key = nil, nil, []int{9} }, flaws(4, 0, 4, 2, 4, 3)},
		// The event before whose key it comes, and the one that it is read from.
		{key(0, 9, 1), flaws(4, 0, 5, -1, 6, 2)},
		{key(0, 9), flaws(4, 0, 5, -1)},
		{key(2, 3), flaws(4, 2, 5, -1, 6, 2)},
		{key(1, 9), flaws(4, 1, 5, -1)},
		{key(1, 8), flaws(4, 1)},
		{func(r *api.Report) { r.Events[0].Key, r.Events[1].Key = []int{9, 1}, nil }, flaws(4, 0, 4, 1, 5, -1)},
	})
}

// 34.1, 34.4: answers that are not legal; only the first one in the order of the keys
// is told, and none if one that has responded lacks a key.
func TestAnswer(t *testing.T) {
	checkSpoils(t, 2, specs(), calls(), []spoil{
		{func(r *api.Report) { r.Events[0].Answer.Val = 1 }, flaws(6, 0)},
		{func(r *api.Report) { r.Events[0].Answer.Err = api.ErrArg }, flaws(6, 0)},
		{func(r *api.Report) { r.Events[0].Answer.List = []uint64{0} }, flaws(6, 0)},
		{func(r *api.Report) { r.Events[0].Answer.List = []uint64{} }, nil},
		{func(r *api.Report) { r.Events[1].Answer.Val = 1 }, flaws(6, 1)},
		{func(r *api.Report) { r.Events[2].Answer.Val = 0 }, flaws(6, 2)},
		{func(r *api.Report) { r.Events[2].Answer.Val = 2 }, flaws(6, 2)},
		{func(r *api.Report) { r.Events[3].Answer.Val = 2 }, nil},
		{func(r *api.Report) { r.Events[1].Answer.Val, r.Events[2].Answer.Val = 1, 0 }, flaws(6, 1)},
		{func(r *api.Report) { r.Events[0].Answer.Val, r.Events[1].Answer.Val, r.Events[1].Key = 1, 1, []int{3} }, flaws(4, 1, 6, 1)},
		{func(r *api.Report) { r.Events[0].Answer.Val, r.Events[1].Answer.Val, r.Events[0].Key = 1, 1, []int{5} }, flaws(6, 1)},
		{func(r *api.Report) { r.Events[1].Answer.Val, r.Events[2].Key = 1, nil }, flaws(4, 2)},
		{func(r *api.Report) { r.Events[0].Key, r.Events[2].Answer.Val = nil, 7 }, flaws(4, 0)},
		// A call for an object that does not exist.
		{func(r *api.Report) {
			r.Events = append(r.Events[:3], api.Event{Call: 4, Inv: 6, Resp: 6, Steps: 1, Key: []int{12}})
		}, flaws(6, 3)},
		{func(r *api.Report) {
			r.Events = append(r.Events[:3], api.Event{Call: 4, Inv: 6, Resp: 6, Steps: 1, Answer: api.Answer{Err: api.ErrObj}, Key: []int{12}})
		}, nil},
	})
}

// 34.1: steps that are not as many as the ticks, even if their sum has no room.
func TestSteps(t *testing.T) {
	checkSpoils(t, 2, specs(), calls(), []spoil{
		{func(r *api.Report) { r.Ticks = 7 }, flaws(7, -1)},
		{func(r *api.Report) { r.Ticks = greatest }, flaws(7, -1)},
		{func(r *api.Report) { r.Events[0].Steps = 1 }, flaws(7, -1)},
		{func(r *api.Report) { r.Events[0].Steps, r.Ticks = 3, 6 }, flaws(3, 0, 7, -1)},
		{func(r *api.Report) { r.Events = r.Events[:3] }, flaws(7, -1)},
		{func(r *api.Report) { r.Events = nil }, flaws(7, -1)},
		{func(r *api.Report) { r.Events[3].Steps = greatest }, flaws(3, 3, 7, -1)},
	})
	// The sum of these steps is 2^64 + 3.
	many := []api.Event{{Call: 0, Inv: 1, Steps: greatest}, {Call: 1, Inv: 2, Steps: greatest}, {Call: 2, Inv: 3, Steps: 5}}
	threads := []api.Call{{Obj: 9}, {Thread: 1, Obj: 9}, {Thread: 2, Obj: 9}}
	for _, ticks := range []int{3, 5, greatest} {
		l := audit.Check(3, nil, threads, api.Report{Events: many, Ticks: ticks})
		if !slices.Equal(l, flaws(3, 0, 3, 1, 3, 2, 7, -1)) {
			t.Errorf("%d ticks: %v", ticks, l)
		}
	}
	if l := audit.Check(3, nil, threads, api.Report{Events: many[:1], Ticks: greatest}); !slices.Equal(l, flaws(3, 0)) {
		t.Error(l)
	}
}

// 34.1: faults, too many accesses, even if their sum has no room, and negative counts.
func TestAccesses(t *testing.T) {
	for _, x := range []struct {
		c     api.Counts
		wrong bool
	}{
		{api.Counts{}, false},
		{api.Counts{Read: 6}, false},
		{api.Counts{Write: 6}, false},
		{api.Counts{Swap: 6}, false},
		{api.Counts{Add: 6}, false},
		{api.Counts{Read: 1, Write: 2, Swap: 2, Add: 1}, false},
		{api.Counts{Read: 7}, true},
		{api.Counts{Write: 7}, true},
		{api.Counts{Swap: 7}, true},
		{api.Counts{Add: 7}, true},
		{api.Counts{Read: 1, Write: 2, Swap: 3, Add: 1}, true},
		{api.Counts{Read: 3, Add: 4}, true},
		{api.Counts{Fault: 1}, true},
		{api.Counts{Read: 1, Fault: greatest}, true},
		{api.Counts{Fault: -1}, true},
		{api.Counts{Read: -1}, true},
		{api.Counts{Write: -1, Read: 3}, true},
		{api.Counts{Swap: -1, Read: 3}, true},
		{api.Counts{Add: -1, Read: 3}, true},
		{api.Counts{Add: least}, true},
		{api.Counts{Read: 8, Write: -2}, true},
		{api.Counts{Write: -2, Add: 8}, true},
		{api.Counts{Read: greatest, Write: greatest, Swap: 2}, true},
		{api.Counts{Read: greatest, Write: 1}, true},
		{api.Counts{Read: least, Swap: least}, true},
		{api.Counts{Read: 1, Write: greatest, Add: greatest}, true},
	} {
		r := good()
		r.Counts = x.c
		var want []audit.Flaw
		if x.wrong {
			want = flaws(8, -1)
		}
		if l := audit.Check(2, specs(), calls(), r); !slices.Equal(l, want) {
			t.Errorf("%v: %v", x.c, l)
		}
	}
}

// 34.1: the order of flaws: those of events first, event by event.
func TestOrder(t *testing.T) {
	checkSpoils(t, 2, specs(), calls(), []spoil{
		{func(r *api.Report) {
			r.Events[0].Steps, r.Events[0].Key = 3, []int{10, 1}
			r.Events[2].Key = []int{11}
			r.Events[3].Steps, r.Events[3].Key = 9, []int{13}
			r.Events[1].Answer.Val = 5
			r.Counts.Fault = 1
		}, flaws(3, 0, 4, 0, 4, 2, 3, 3, 4, 3, 6, 1, 7, -1, 8, -1)},
		{func(r *api.Report) {
			r.Events[1].Key = []int{12}
			r.Events[2].Answer.Val = 5
			r.Ticks, r.Counts.Read = 7, 7
		}, flaws(4, 1, 5, -1, 6, 2, 7, -1, 8, -1)},
	})
}

// all is the chapter's definition, with whole numbers of any size.
func all(n int, specs []api.Spec, calls []api.Call, r api.Report) []audit.Flaw {
	if _, _, e := table.Lay(n, specs); e != api.OK {
		return flaws(1, -1)
	}
	if !history.Right(n, calls, r.Events, r.Ticks) {
		return flaws(2, -1)
	}
	var l []audit.Flaw
	ticks, steps := big.NewInt(int64(r.Ticks)), new(big.Int)
	lacks := false
	for i, x := range r.Events {
		most := trial.MostSteps(n, specs, calls[x.Call])
		responded := x.Resp != 0
		if x.Steps > most || !responded && x.Steps == most {
			l = append(l, flaws(3, i)...)
		}
		last := x.Resp
		if !responded {
			last = r.Ticks
		}
		if responded && len(x.Key) == 0 || len(x.Key) > 0 && !keys.Within(x.Key, x.Inv, last) {
			l = append(l, flaws(4, i)...)
		}
		lacks = lacks || responded && len(x.Key) == 0
		steps.Add(steps, big.NewInt(int64(x.Steps)))
	}
	if !linear.Ahead(r.Events) {
		l = append(l, flaws(5, -1)...)
	}
	if i, _ := linear.Wrong(n, specs, calls, r.Events); i != -1 && !lacks {
		l = append(l, flaws(6, i)...)
	}
	if steps.Cmp(ticks) != 0 {
		l = append(l, flaws(7, -1)...)
	}
	counts, accesses := []int{r.Counts.Read, r.Counts.Write, r.Counts.Swap, r.Counts.Add}, new(big.Int)
	for _, c := range counts {
		accesses.Add(accesses, big.NewInt(int64(c)))
	}
	if r.Counts.Fault != 0 || accesses.Cmp(ticks) > 0 || slices.Min(counts) < 0 {
		l = append(l, flaws(8, -1)...)
	}
	return l
}

// 34.2: the eight names, and no others.
func TestName(t *testing.T) {
	want := []string{"table", "history", "bound", "key", "ahead", "answer", "steps", "accesses"}
	for i, s := range want {
		if audit.Name(i+1) != s {
			t.Errorf("%d: %q; want %q", i+1, audit.Name(i+1), s)
		}
	}
	for _, what := range []int{least, -8, -1, 0, 9, 10, 256 + 1, greatest} {
		if s := audit.Name(what); s != "" {
			t.Errorf("%d: %q", what, s)
		}
	}
}

// R4: arguments remain what they are, with their spare capacity, and results are new.
func TestMemory(t *testing.T) {
	s := append(make([]api.Spec, 0, 4), specs()...)
	c := append(make([]api.Call, 0, 8), calls()...)
	r := good()
	r.Events = append(make([]api.Event, 0, 8), r.Events...)
	r.Events[0].Key = append(make([]int, 0, 4), 9, 1)
	want := flaws(4, 0, 5, -1, 6, 2)
	for range 3 {
		l := audit.Check(2, s, c, r)
		if !slices.Equal(l, want) {
			t.Error(l)
		}
		clear(l[:cap(l)])
	}
	kept := good()
	kept.Events[0].Key = []int{9, 1}
	if !trial.SameReport(r, kept) || !trial.SameEvents(r.Events[:8][4:], make([]api.Event, 4)) || !slices.Equal(r.Events[0].Key[:4], []int{9, 1, 0, 0}) {
		t.Error(r)
	}
	if !slices.Equal(s[:4], append(specs(), make([]api.Spec, 2)...)) || !slices.Equal(c[:8], append(calls(), make([]api.Call, 3)...)) {
		t.Error(s, c)
	}
}
