package run_test

import (
	"math"
	"slices"
	"testing"

	"roundelay/adder"
	"roundelay/api"
	"roundelay/cons"
	"roundelay/loom"
	"roundelay/maxreg"
	"roundelay/multi"
	"roundelay/pin"
	"roundelay/queue"
	"roundelay/run"
	"roundelay/snap"
	"roundelay/table"
	"roundelay/tally"
	"roundelay/trial"
	"roundelay/univ"
)

// play returns a play, which must have no error.
func play(t *testing.T, n int, specs []api.Spec, calls []api.Call, picks []int) api.Report {
	t.Helper()
	r, e := run.Play(n, specs, calls, picks)
	if e != api.OK {
		t.Fatalf("Play(%d, %v, %v, %v): %v", n, specs, calls, picks, e)
	}
	return r
}

// whole returns a play of whole calls, which must have no error.
func whole(t *testing.T, n int, specs []api.Spec, calls []api.Call) (api.Report, []int) {
	t.Helper()
	r, picks, e := run.Whole(n, specs, calls)
	if e != api.OK {
		t.Fatalf("Whole(%d, %v, %v): %v", n, specs, calls, e)
	}
	return r, picks
}

// isZero tells whether a report is the zero value.
func isZero(r api.Report) bool {
	return trial.SameReport(r, api.Report{})
}

// object returns the object of a package that the chapter of the table names.
func object(s api.Spec) loom.Object {
	switch s.Kind {
	case api.Cell:
		return loom.NewCells(s.P)
	case api.Cons:
		return cons.New()
	case api.Tally:
		return tally.New()
	case api.Adder:
		return adder.New()
	case api.Max:
		return maxreg.New(s.P)
	case api.Snap:
		return snap.New(s.P)
	case api.Multi:
		return multi.New(s.P, s.Q)
	case api.Univ:
		return univ.New(s.P, s.Q)
	case api.Queue:
		return queue.New(s.P, s.Q)
	default:
		return pin.New(s.P)
	}
}

// 25.1: a play of several objects as plain numbers: a tally at 0, cells at 2, and
// a cons at 4; the calls of a thread follow each other, whatever their objects are.
func TestPlay(t *testing.T) {
	specs := []api.Spec{{Kind: api.Tally}, {Kind: api.Cell, P: 2}, {Kind: api.Cons}}
	calls := []api.Call{
		{Thread: 0}, {Thread: 1, Obj: 1, Kind: 3, A: 1, B: 7}, {Thread: 1, Obj: 2, A: 5}, {Thread: 0, Obj: 2, A: 6},
		{Thread: 0, Obj: 3}, {Thread: 1, Kind: 1}, {Thread: 0, Obj: 1, Kind: 0, A: 1},
	}
	r := play(t, 2, specs, calls, []int{0, 1, 2, 1, 0, 0, -1, 0, 0, 1, 1, 0, 0})
	want := api.Report{
		Events: []api.Event{
			{Call: 0, Inv: 1, Resp: 4, Steps: 2, Key: []int{8}},
			{Call: 1, Inv: 2, Resp: 2, Steps: 1, Key: []int{4}},
			{Call: 2, Inv: 3, Resp: 8, Steps: 2, Answer: api.Answer{Val: 5}, Key: []int{6}},
			{Call: 3, Inv: 5, Resp: 6, Steps: 2, Answer: api.Answer{Val: 5}, Key: []int{10}},
			{Call: 4, Inv: 7, Resp: 7, Steps: 1, Answer: api.Answer{Err: api.ErrObj}, Key: []int{14}},
			{Call: 5, Inv: 9, Steps: 1},
			{Call: 6, Inv: 10, Resp: 10, Steps: 1, Answer: api.Answer{Val: 7}, Key: []int{20}},
		},
		Words:  []uint64{1, 0, 0, 7, 6},
		Counts: api.Counts{Read: 5, Write: 1, Swap: 2, Add: 1},
		Ticks:  10,
		Idle:   3,
	}
	// The cons keeps the number plus 1, and a proposal takes effect at its C.
	if !trial.SameReport(r, want) {
		t.Errorf("%v; want %v", r, want)
	}
}

// 25.1: plays of any objects are those of the objects of the packages, one after
// the other in one memory.
func TestPlaysOfObjects(t *testing.T) {
	number := trial.Numbers(41)
	for range 400 {
		n := 1 + number(5)
		specs := trial.SomeSpecs(number, 1+number(api.MaxObjs))
		calls := trial.Spoiled(number, trial.CallsOn(number, n, specs, number(20*n)))
		picks := trial.Bursts(number, n+1, 30*len(calls))
		var objects []loom.Object
		for _, s := range specs {
			objects = append(objects, object(s))
		}
		want, e := loom.Play(n, calls, picks, objects...)
		if r := play(t, n, specs, calls, picks); e != api.OK || !trial.SameReport(r, want) {
			t.Fatalf("%d threads, %v, %v: %v; want %v", n, specs, calls, r, want)
		}
	}
}

// 25.1: without picks, or without calls, the words are the initial ones, where the
// table places the objects.
func TestPlaces(t *testing.T) {
	number := trial.Numbers(42)
	for range 100 {
		n := 1 + number(api.MaxThreads)
		specs := trial.SomeSpecs(number, 1+number(api.MaxObjs))
		words, e := table.Words(n, specs)
		if e != api.OK {
			t.Fatal(e)
		}
		r := play(t, n, specs, trial.CallsOn(number, n, specs, 5), nil)
		if !trial.SameReport(r, api.Report{Words: words}) {
			t.Errorf("%v: %v; want %v", specs, r, words)
		}
		r = play(t, n, specs, nil, []int{0, 1, n})
		if !trial.SameReport(r, api.Report{Words: words, Idle: 3}) {
			t.Errorf("%v: %v; want %v", specs, r, words)
		}
	}
	if r := play(t, 1, nil, nil, nil); !isZero(r) {
		t.Error(r)
	}
}

// wrongSpecs are objects that have an error for two threads.
func wrongSpecs() map[api.Errno][][]api.Spec {
	big := api.Spec{Kind: api.Snap, P: 64}
	return map[api.Errno][][]api.Spec{
		api.ErrLong: {
			make([]api.Spec, 9),
			slices.Repeat([]api.Spec{{Kind: 10}}, 9),
		},
		api.ErrKind: {
			{{Kind: 10}},
			{{Kind: -1}},
			{{Kind: math.MaxInt}},
			{{Kind: api.Cons}, {Kind: math.MinInt}, {Kind: api.Cell}},
		},
		api.ErrRange: {
			{{Kind: api.Cell}},
			{{Kind: api.Cell, P: 65}},
			{{Kind: api.Queue, P: 1, Q: 4}},
			{{Kind: api.Tally}, {Kind: api.Max, P: math.MaxInt}, {Kind: 10}},
			{big, big, big, big, big, {Kind: api.Univ, P: 8, Q: 1}},
		},
	}
}

// checkWrong checks that Play and Whole return an error, and nothing else. Whole
// has no picks that could be wrong.
func checkWrong(t *testing.T, n int, specs []api.Spec, calls []api.Call, picks []int, want api.Errno) {
	t.Helper()
	if r, e := run.Play(n, specs, calls, picks); e != want || !isZero(r) {
		t.Errorf("Play(%d, %v, %d calls, %d picks): %v; want %v", n, specs, len(calls), len(picks), e, want)
	}
	if len(picks) > api.MaxPicks {
		return
	}
	if r, made, e := run.Whole(n, specs, calls); e != want || !isZero(r) || len(made) != 0 {
		t.Errorf("Whole(%d, %v, %d calls): %v; want %v", n, specs, len(calls), e, want)
	}
}

// 25.1, 25.2: the errors, each alone, and those of the calls and the picks before
// those of the objects.
func TestErrors(t *testing.T) {
	one := []api.Call{{}}
	for want, lists := range wrongSpecs() {
		for _, specs := range lists {
			checkWrong(t, 2, specs, nil, nil, want)
			checkWrong(t, 2, specs, one, []int{0, 1}, want)
			checkWrong(t, 2, specs, one, make([]int, api.MaxPicks), want)
		}
	}
	good := [][]api.Spec{{{Kind: api.Cons}}}
	wrongSpecs := wrongSpecs()
	for _, w := range trial.WrongPlays() {
		for _, specs := range slices.Concat(good, wrongSpecs[api.ErrLong], wrongSpecs[api.ErrKind], wrongSpecs[api.ErrRange]) {
			checkWrong(t, w.N, specs, w.Calls, w.Picks, w.Want)
		}
	}
}

// 25.1, 25.2: objects with the greatest number of words, and with more of them.
func TestWords(t *testing.T) {
	big := api.Spec{Kind: api.Snap, P: 64} // 17424 words for 16 threads
	specs := []api.Spec{big, big, big, {Kind: api.Max, P: 12}, {Kind: api.Max, P: 12}, {Kind: api.Max, P: 12}, {Kind: api.Snap, P: 3}}
	_, size, e := table.Lay(16, specs)
	if e != api.OK || size > api.MaxWords {
		t.Fatal(size, e)
	}
	calls := []api.Call{{Thread: 15, Obj: 6, A: 4}, {Thread: 15, Obj: 6, Kind: 1}}
	r, _ := whole(t, 16, specs, calls)
	if len(r.Words) != size || len(r.Events[1].Answer.List) != 16 || r.Events[1].Answer.List[15] != 4 {
		t.Error(len(r.Words), r.Events)
	}
	specs[6].P = 4
	checkWrong(t, 16, specs, calls, []int{15}, api.ErrLong)
	checkWrong(t, 16, specs, []api.Call{{Thread: 16}}, nil, api.ErrArg)
	specs[0].P = 65
	checkWrong(t, 16, specs, calls, []int{15}, api.ErrRange)
}

// 25.2: the example of the chapter: each thread proposes, and puts the number that
// was agreed on; the picks as plain numbers.
func TestExample(t *testing.T) {
	specs := []api.Spec{{Kind: api.Cons}, {Kind: api.Queue, P: 1, Q: 1}}
	calls := []api.Call{{Thread: 1, A: 6}, {Thread: 0, A: 5}}
	r, picks := whole(t, 2, specs, calls)
	if !slices.Equal(picks, []int{1, 1, 0, 0}) || r.Ticks != 4 || r.Idle != 0 {
		t.Error(picks, r)
	}
	for _, x := range r.Events {
		if x.Answer.Val != 6 || x.Steps != 2 {
			t.Error(x)
		}
	}
	for thread := range 2 {
		agreed := r.Events[1-thread].Answer.Val
		calls = append(calls, api.Call{Thread: thread, Obj: 1, A: agreed})
	}
	calls = append(calls, api.Call{Thread: 1, Obj: 1, Kind: 1}, api.Call{Thread: 1, Obj: 1, Kind: 1}, api.Call{Thread: 0, Obj: 1, Kind: 1})
	r, picks = whole(t, 2, specs, calls)
	if len(r.Events) != 7 || r.Events[4].Answer.Val != 6 || r.Events[5].Answer.Val != 6 || r.Events[6].Answer.Err != api.ErrEmpty {
		t.Error(r.Events)
	}
	if !slices.Equal(picks[:4], []int{1, 1, 0, 0}) || !slices.Equal(picks[4:18], append(slices.Repeat([]int{0}, 13), 1)) {
		t.Error(picks)
	}
}

// 25.2: each call, in order, responds before the next one begins, and Play makes
// the same of these picks.
func TestWhole(t *testing.T) {
	number := trial.Numbers(43)
	for range 200 {
		n := 1 + number(api.MaxThreads)
		specs := trial.SomeSpecs(number, 1+number(api.MaxObjs))
		calls := trial.Spoiled(number, trial.CallsOn(number, n, specs, number(60)))
		r, picks := whole(t, n, specs, calls)
		if len(r.Events) != len(calls) || r.Ticks != len(picks) || r.Idle != 0 {
			t.Fatalf("%v: %d ticks, %d idle picks, %v", calls, r.Ticks, r.Idle, r.Events)
		}
		var want []int
		for i, x := range r.Events {
			if x.Call != i || x.Inv != len(want)+1 || x.Steps < 1 || x.Resp != len(want)+x.Steps || len(x.Key) == 0 {
				t.Fatalf("%v: %v after %d picks", calls[i], x, len(want))
			}
			want = append(want, slices.Repeat([]int{calls[i].Thread}, x.Steps)...)
		}
		if !slices.Equal(picks, want) {
			t.Fatalf("%v: %v; want %v", calls, picks, want)
		}
		if again := play(t, n, specs, calls, picks); !trial.SameReport(r, again) {
			t.Fatalf("%v: %v; Play: %v", calls, r, again)
		}
	}
	if r, picks := whole(t, 16, nil, nil); !isZero(r) || len(picks) != 0 {
		t.Error(r, picks)
	}
	r, picks := whole(t, 3, nil, []api.Call{{Thread: 2}, {Thread: 0, Obj: -1}})
	if !slices.Equal(picks, []int{2, 0}) || r.Events[0].Answer.Err != api.ErrObj || r.Events[1].Answer.Err != api.ErrObj {
		t.Error(r, picks)
	}
}

// 25.2: as many calls as a play can have, of the longest operations that are known:
// values are put into two queues until all places are taken, so that a thread reads
// more and more marks.
func TestLong(t *testing.T) {
	specs := []api.Spec{{Kind: api.Queue, P: 32}, {Kind: api.Queue, P: 32}}
	var calls []api.Call
	for i := range api.MaxCalls {
		calls = append(calls, api.Call{Thread: i / 32 % 16, Obj: i / 512})
	}
	r, picks := whole(t, 16, specs, calls)
	// Operations of a thread make 49 to 80 steps.
	if len(picks) != 31*32*(49+80)/2+8*49+28 || r.Ticks != len(picks) || r.Events[999].Resp != len(picks) {
		t.Error(len(picks), r.Ticks, r.Events[999])
	}
	if again := play(t, 16, specs, calls, picks); !trial.SameReport(r, again) {
		t.Error(len(again.Events), again.Ticks)
	}
}

// R4: arguments remain what they are, with their spare capacity, and no two
// results share memory.
func TestAlone(t *testing.T) {
	specs := append(make([]api.Spec, 0, 4), api.Spec{Kind: api.Snap, P: 2}, api.Spec{Kind: api.Queue, P: 1})
	calls := append(make([]api.Call, 0, 4), api.Call{A: 5}, api.Call{Kind: 1})
	picks := append(make([]int, 0, 40), make([]int, 20)...)
	specsBefore, callsBefore, picksBefore := slices.Clone(specs[:4]), slices.Clone(calls[:4]), slices.Clone(picks[:40])
	first := play(t, 1, specs, calls, picks)
	second := play(t, 1, specs, calls, picks)
	third, made := whole(t, 1, specs, calls)
	fourth, again := whole(t, 1, specs, calls)
	for _, r := range []api.Report{first, third} {
		for _, x := range r.Events {
			for i := range x.Key {
				x.Key[i] = 99
			}
			for i := range x.Answer.List {
				x.Answer.List[i] = 99
			}
		}
		for i := range r.Words {
			r.Words[i] = 99
		}
	}
	for i := range made {
		made[i] = 99
	}
	for _, r := range []api.Report{second, fourth} {
		if !slices.Equal(r.Events[1].Answer.List, []uint64{5}) || slices.Contains(r.Words, 99) || r.Events[0].Key[0] == 99 {
			t.Error(r)
		}
	}
	if slices.Max(again) != 0 {
		t.Error(again)
	}
	if !slices.Equal(specs[:4], specsBefore) || !slices.Equal(calls[:4], callsBefore) || !slices.Equal(picks[:40], picksBefore) {
		t.Error(specs, calls, picks)
	}
}
