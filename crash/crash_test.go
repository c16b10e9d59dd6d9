package crash_test

import (
	"math"
	"slices"
	"testing"

	"roundelay/api"
	"roundelay/crash"
	"roundelay/run"
	"roundelay/trial"
)

// 30.1: no stops, stops of threads that are not picked, several stops of a thread,
// and stops before the first pick and after the last one.
func TestWithout(t *testing.T) {
	picks := []int{0, 1, 0, 2, 1, 0, -1, 1, math.MaxInt, 0}
	for _, x := range []struct {
		stops []crash.Stop
		want  []int
	}{
		{nil, picks},
		{[]crash.Stop{}, picks},
		{[]crash.Stop{{3, 0}, {-2, 0}, {math.MinInt, -1}}, picks},
		{[]crash.Stop{{0, 4}, {1, 3}, {2, 1}, {-1, 1}, {math.MaxInt, math.MaxInt}}, picks},
		{[]crash.Stop{{0, 3}}, []int{0, 1, 0, 2, 1, 0, -1, 1, math.MaxInt}},
		{[]crash.Stop{{0, 1}}, []int{0, 1, 2, 1, -1, 1, math.MaxInt}},
		{[]crash.Stop{{0, 0}}, []int{1, 2, 1, -1, 1, math.MaxInt}},
		{[]crash.Stop{{0, -1}}, []int{1, 2, 1, -1, 1, math.MaxInt}},
		{[]crash.Stop{{0, math.MinInt}}, []int{1, 2, 1, -1, 1, math.MaxInt}},
		{[]crash.Stop{{-1, 0}, {math.MaxInt, 0}}, []int{0, 1, 0, 2, 1, 0, 1, 0}},
		{[]crash.Stop{{0, 3}, {0, 1}, {0, 2}}, []int{0, 1, 2, 1, -1, 1, math.MaxInt}},
		{[]crash.Stop{{0, 1}, {1, 2}, {0, 9}, {1, 1}}, []int{0, 1, 2, -1, math.MaxInt}},
		{[]crash.Stop{{1, math.MaxInt}, {1, -5}, {1, 2}, {1, -5}}, []int{0, 0, 2, 0, -1, math.MaxInt, 0}},
		{[]crash.Stop{{0, 0}, {1, 0}, {2, 0}, {-1, 0}, {math.MaxInt, 0}}, nil},
	} {
		if l := crash.Without(picks, x.stops); !slices.Equal(l, x.want) {
			t.Errorf("%v: %v; want %v", x.stops, l, x.want)
		}
		if l := crash.Without(nil, x.stops); len(l) != 0 {
			t.Errorf("%v: %v without picks", x.stops, l)
		}
	}
}

// without is the chapter's definition, pick by pick.
func without(picks []int, stops []crash.Stop) []int {
	var rest []int
	for i, p := range picks {
		earlier := 0
		for _, q := range picks[:i] {
			if q == p {
				earlier++
			}
		}
		if !slices.ContainsFunc(stops, func(s crash.Stop) bool { return s.Thread == p && s.After <= earlier }) {
			rest = append(rest, p)
		}
	}
	return rest
}

// someStops makes stops of some threads, several of them of the same thread.
func someStops(number func(below int) int, n, most int) []crash.Stop {
	var stops []crash.Stop
	for range number(2 * n) {
		stops = append(stops, crash.Stop{Thread: number(n+2) - 1, After: number(most+2) - 1})
	}
	return stops
}

// 30.1, R4: any picks and stops, which remain what they are, with their spare capacity.
func TestWithoutAsDefined(t *testing.T) {
	number := trial.Numbers(81)
	for range 3000 {
		n := 1 + number(5)
		picks := trial.Bursts(number, n, number(60))
		stops := append(someStops(number, n, 20), crash.Stop{Thread: number(n), After: number(20)})
		picksBefore, stopsBefore := slices.Clone(picks), slices.Clone(stops)
		l := crash.Without(picks[:len(picks)/2], stops[:len(stops)-1])
		want := without(picks[:len(picks)/2], stops[:len(stops)-1])
		if !slices.Equal(l, want) {
			t.Fatalf("%v, %v: %v; want %v", picks, stops, l, want)
		}
		for i := range l {
			l[i] = 99
		}
		if !slices.Equal(picks, picksBefore) || !slices.Equal(stops, stopsBefore) {
			t.Fatalf("%v, %v were %v, %v", picks, stops, picksBefore, stopsBefore)
		}
	}
}

// 30.1: more picks than a play can have.
func TestWithoutLong(t *testing.T) {
	picks := slices.Repeat([]int{0, 1}, api.MaxPicks)
	if l := crash.Without(picks, []crash.Stop{{1, api.MaxPicks - 1}}); len(l) != len(picks)-1 || l[len(l)-1] != 0 {
		t.Error(len(l))
	}
}

// goes returns what Goes returns, which must have no error.
func goes(t *testing.T, n int, specs []api.Spec, calls []api.Call, picks []int, thread int) int {
	t.Helper()
	more, e := crash.Goes(n, specs, calls, picks, thread)
	if e != api.OK {
		t.Fatalf("Goes(%d, %v, %v, %v, %d): %v", n, specs, calls, picks, thread, e)
	}
	return more
}

// alone returns what Alone returns, which must have no error.
func alone(t *testing.T, n int, specs []api.Spec, calls []api.Call, picks []int, thread int) api.Report {
	t.Helper()
	r, e := crash.Alone(n, specs, calls, picks, thread)
	if e != api.OK {
		t.Fatalf("Alone(%d, %v, %v, %v, %d): %v", n, specs, calls, picks, thread, e)
	}
	return r
}

// play returns a play, which must have no error.
func play(t *testing.T, n int, specs []api.Spec, calls []api.Call, picks []int) api.Report {
	t.Helper()
	r, e := run.Play(n, specs, calls, picks)
	if e != api.OK {
		t.Fatalf("Play(%d, %v, %v, %v): %v", n, specs, calls, picks, e)
	}
	return r
}

// 30.2: the picks that are needed, as plain numbers: cells need one step, a cons two,
// and a tally for three threads two, or three to read.
func TestGoes(t *testing.T) {
	specs := []api.Spec{{Kind: api.Cell, P: 1}, {Kind: api.Cons}, {Kind: api.Tally}}
	calls := []api.Call{
		{Thread: 0, Obj: 2, Kind: 1}, {Thread: 1, Obj: 1, A: 5}, {Thread: 1}, {Thread: 0, Obj: 2}, {Thread: 1, Obj: 3}, {Thread: 1, Obj: 2, Kind: 2},
	}
	for _, x := range []struct {
		picks        []int
		thread, want int
	}{
		{nil, 0, 3},
		{nil, 1, 2},
		{nil, 2, 0},
		{nil, -1, 0},
		{nil, math.MaxInt, 0},
		{[]int{0}, 0, 2},
		{[]int{0}, 1, 2},
		{[]int{0, 0, 1}, 0, 1},
		{[]int{0, 0, 1}, 1, 1},
		{[]int{0, 0, 0}, 0, 2},
		{[]int{0, 0, 0, 1, 0}, 0, 1},
		{[]int{0, 0, 0, 1, 0, 0}, 0, 0},
		{[]int{0, 0, 0, 0, 0, 0, 0}, 0, 0},
		{[]int{0, 0, 0, 0, 0, 0, 0}, 1, 2},
		{[]int{1, 2, 1}, 1, 1},
		{[]int{1, 1, 2, 2}, 2, 0},
		{[]int{1, 1, -1, 1}, 1, 1},
		{[]int{1, 1, 1, 1}, 1, 1},
		{[]int{1, 1, 1, 1, 1}, 1, 0},
		{[]int{1, 1, 1, 1, 1, 1}, 1, 0},
	} {
		if more := goes(t, 3, specs, calls, x.picks, x.thread); more != x.want {
			t.Errorf("Goes(%v, %d): %d; want %d", x.picks, x.thread, more, x.want)
		}
		r := alone(t, 3, specs, calls, x.picks, x.thread)
		want := play(t, 3, specs, calls, slices.Concat(x.picks, slices.Repeat([]int{x.thread}, x.want)))
		if !trial.SameReport(r, want) {
			t.Errorf("Alone(%v, %d): %v; want %v", x.picks, x.thread, r, want)
		}
	}
}

// 30.2: the numbers of a whole put, and of a whole take of it, for one thread.
func TestGoesOfQueue(t *testing.T) {
	specs := []api.Spec{{Kind: api.Queue, P: 1, Q: 1}}
	calls := []api.Call{{A: 5}, {Kind: 1}}
	for made := range 13 {
		if more := goes(t, 1, specs, calls, make([]int, made), 0); more != 13-made {
			t.Errorf("after %d picks: %d", made, more)
		}
	}
	r := alone(t, 1, specs, calls, make([]int, 13), 0)
	if len(r.Events) != 2 || r.Events[1].Answer.Val != 5 || r.Events[1].Resp != r.Ticks || r.Events[1].Inv != 14 {
		t.Error(r)
	}
	if more := goes(t, 1, specs, calls, make([]int, r.Ticks), 0); more != 0 {
		t.Error(more)
	}
}

// checkError checks that Goes and Alone return an error, and nothing else.
func checkError(t *testing.T, n int, specs []api.Spec, calls []api.Call, picks []int, want api.Errno) {
	t.Helper()
	for _, thread := range []int{0, 1, -1, math.MaxInt} {
		if more, e := crash.Goes(n, specs, calls, picks, thread); e != want || more != 0 {
			t.Errorf("Goes(%d, %v, %d calls, %d picks): %d, %v; want %v", n, specs, len(calls), len(picks), more, e, want)
		}
		if r, e := crash.Alone(n, specs, calls, picks, thread); e != want || !trial.SameReport(r, api.Report{}) {
			t.Errorf("Alone(%d, %v, %d calls, %d picks): %v; want %v", n, specs, len(calls), len(picks), e, want)
		}
	}
}

// 30.2: the errors of plays, each alone, and those of the calls and the picks before
// those of the objects.
func TestErrors(t *testing.T) {
	big := api.Spec{Kind: api.Snap, P: 64} // 17424 words for 16 threads
	wrongSpecs := map[api.Errno][][]api.Spec{
		api.ErrLong:  {make([]api.Spec, 9), slices.Repeat([]api.Spec{{Kind: 10}}, 9), {big, big, big, big}},
		api.ErrKind:  {{{Kind: 10}}, {{Kind: -1}}, {big, big, big, big, {Kind: math.MaxInt}, {Kind: api.Cell}}},
		api.ErrRange: {{{Kind: api.Cell}}, {{Kind: api.Queue, P: 1, Q: 4}}, {{Kind: api.Tally}, {Kind: api.Max, P: 13}, {Kind: 10}}},
	}
	for want, lists := range wrongSpecs {
		for _, specs := range lists {
			checkError(t, 16, specs, nil, nil, want)
			checkError(t, 16, specs, []api.Call{{}}, make([]int, api.MaxPicks), want)
			for _, w := range trial.WrongPlays() {
				checkError(t, w.N, specs, w.Calls, w.Picks, w.Want)
			}
		}
	}
	for _, w := range trial.WrongPlays() {
		checkError(t, w.N, []api.Spec{{Kind: api.Cons}}, w.Calls, w.Picks, w.Want)
	}
}

// 30.2: as many picks as there can be, and more. Goes returns how many there would
// be, whatever their total is.
func TestMostPicks(t *testing.T) {
	specs := []api.Spec{{Kind: api.Tally}}
	calls := []api.Call{{Thread: 0, Kind: 1}}
	for given := api.MaxPicks - 6; given <= api.MaxPicks; given++ {
		picks := slices.Repeat([]int{1}, given)
		if more := goes(t, 4, specs, calls, picks, 0); more != 4 {
			t.Errorf("%d picks: %d", given, more)
		}
		r, e := crash.Alone(4, specs, calls, picks, 0)
		if given+4 > api.MaxPicks {
			if e != api.ErrLong || !trial.SameReport(r, api.Report{}) {
				t.Errorf("%d picks: %v, %v", given, r, e)
			}
		} else if e != api.OK || r.Ticks != 4 || r.Idle != given || r.Events[0].Resp != 4 {
			t.Errorf("%d picks: %v, %v", given, r, e)
		}
		if r := alone(t, 4, specs, calls, picks, 3); r.Ticks != 0 || r.Idle != given || len(r.Events) != 0 {
			t.Errorf("%d picks: %v", given, r)
		}
	}
}

// R4: arguments remain what they are, with their spare capacity, and no two results
// share memory.
func TestAlone(t *testing.T) {
	specs := append(make([]api.Spec, 0, 4), api.Spec{Kind: api.Snap, P: 2})
	calls := append(make([]api.Call, 0, 4), api.Call{A: 5}, api.Call{Kind: 1})
	picks := append(make([]int, 0, 40), 0, 0, 0, 0)
	for i := range 36 {
		picks[:40][4+i] = 7
	}
	specsBefore, callsBefore, picksBefore := slices.Clone(specs[:4]), slices.Clone(calls[:4]), slices.Clone(picks[:40])
	for range 3 {
		goes(t, 1, specs, calls, picks, 0)
		r := alone(t, 1, specs, calls, picks, 0)
		more := alone(t, 1, specs, calls, make([]int, r.Ticks), 0)
		if len(more.Events) != 2 || !slices.Equal(more.Events[1].Answer.List, []uint64{5}) {
			t.Error(more)
		}
		for _, x := range more.Events {
			x.Key[0] = 99
		}
		more.Events[1].Answer.List[0] = 99
		more.Words[0] = 99
		if slices.Contains(r.Words, 99) || r.Events[0].Key[0] == 99 {
			t.Error(r)
		}
	}
	if !slices.Equal(specs[:4], specsBefore) || !slices.Equal(calls[:4], callsBefore) || !slices.Equal(picks[:40], picksBefore) {
		t.Error(specs, calls, picks)
	}
}
