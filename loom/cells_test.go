package loom_test

import (
	"math"
	"reflect"
	"slices"
	"testing"

	"roundelay/api"
	"roundelay/loom"
	"roundelay/trial"
)

const top = math.MaxUint64

// playCells returns the play of cells, which must have no error.
func playCells(t *testing.T, n, size int, calls []api.Call, picks []int) api.Report {
	t.Helper()
	r, e := loom.Cells(n, size, calls, picks)
	if e != api.OK {
		t.Fatalf("Cells(%d, %d, %v, %v): %v", n, size, calls, picks, e)
	}
	return r
}

// accesses returns how many accesses were made, each one to a word that exists.
func accesses(t *testing.T, c api.Counts) int {
	t.Helper()
	if c.Fault != 0 {
		t.Errorf("%d accesses to no word", c.Fault)
	}
	return c.Read + c.Write + c.Swap + c.Add
}

// isZero tells whether a report is the zero value.
func isZero(r api.Report) bool {
	return len(r.Events) == 0 && len(r.Words) == 0 && r.Counts == api.Counts{} && r.Ticks == 0 && r.Idle == 0
}

// 6.2: each operation, one after the other, on three words.
func TestCellOperations(t *testing.T) {
	var calls []api.Call
	var want []uint64
	for _, q := range []struct {
		kind    int
		a, b, c uint64
		val     uint64
	}{
		{0, 0, 7, 7, 0},
		{1, 0, 5, 9, 0},
		{0, 0, 0, 0, 5},
		{0, 1, 0, 0, 0},
		{2, 0, 5, 6, 1},
		{2, 0, 5, 8, 0},
		{0, 0, 0, 0, 6},
		{2, 2, 0, 0, 1},
		{2, 2, 0, top, 1},
		{0, 2, 0, 0, top},
		{3, 2, 3, 9, top},
		{3, 2, top, 0, 2},
		{0, 2, 0, 0, 1},
		{3, 1, 0, 0, 0},
		{1, 1, top, 0, 0},
		{0, 1, 0, 0, top},
	} {
		calls = append(calls, api.Call{Kind: q.kind, A: q.a, B: q.b, C: q.c})
		want = append(want, q.val)
	}
	r := playCells(t, 1, 3, calls, make([]int, len(calls)))
	if len(r.Events) != len(calls) {
		t.Fatalf("%d events of %d calls", len(r.Events), len(calls))
	}
	for i, x := range r.Events {
		if x.Answer.Err != api.OK || x.Answer.Val != want[i] || len(x.Answer.List) != 0 {
			t.Errorf("%v: %v; want %d", calls[i], x.Answer, want[i])
		}
	}
	if !slices.Equal(r.Words, []uint64{6, top, 1}) {
		t.Error("words:", r.Words)
	}
	if r.Counts != (api.Counts{Read: 7, Write: 2, Swap: 4, Add: 3}) {
		t.Error("counts:", r.Counts)
	}
}

// 6.2: the example of the chapter.
func TestCellExample(t *testing.T) {
	calls := []api.Call{{Thread: 0, Kind: 3, B: 5}, {Thread: 1, Kind: 3, B: 7}}
	r := playCells(t, 2, 1, calls, []int{1, 0})
	want := []api.Event{
		{Call: 1, Inv: 1, Resp: 1, Steps: 1, Key: []int{2}},
		{Call: 0, Inv: 2, Resp: 2, Steps: 1, Answer: api.Answer{Val: 7}, Key: []int{4}},
	}
	if !trial.SameEvents(r.Events, want) || !slices.Equal(r.Words, []uint64{12}) || r.Ticks != 2 || r.Idle != 0 {
		t.Error(r)
	}
}

// 6.2: operations that respond with an error make a step, but no access.
func TestCellErrors(t *testing.T) {
	for _, q := range []struct {
		size int
		call api.Call
		want api.Errno
	}{
		{1, api.Call{Kind: 4}, api.ErrKind},
		{1, api.Call{Kind: -1}, api.ErrKind},
		{1, api.Call{Kind: math.MaxInt}, api.ErrKind},
		{1, api.Call{Kind: math.MinInt}, api.ErrKind},
		{1, api.Call{Kind: 4, A: 1}, api.ErrKind},
		{1, api.Call{Kind: 0, A: 1}, api.ErrRange},
		{1, api.Call{Kind: 1, A: 1, B: 3}, api.ErrRange},
		{2, api.Call{Kind: 2, A: 2, C: 3}, api.ErrRange},
		{63, api.Call{Kind: 3, A: 63, B: 3}, api.ErrRange},
		{64, api.Call{Kind: 0, A: 64}, api.ErrRange},
		{64, api.Call{Kind: 1, A: 1 << 32}, api.ErrRange},
		{64, api.Call{Kind: 2, A: 1 << 63}, api.ErrRange},
		{64, api.Call{Kind: 3, A: top}, api.ErrRange},
		{1, api.Call{Obj: 1}, api.ErrObj},
		{1, api.Call{Obj: -1}, api.ErrObj},
		{1, api.Call{Obj: math.MaxInt}, api.ErrObj},
		{1, api.Call{Obj: math.MinInt}, api.ErrObj},
		{1, api.Call{Obj: 1, Kind: 9, A: 9}, api.ErrObj},
	} {
		r := playCells(t, 1, q.size, []api.Call{q.call}, []int{0, 0})
		want := []api.Event{{Inv: 1, Resp: 1, Steps: 1, Answer: api.Answer{Err: q.want}, Key: []int{2}}}
		if !trial.SameEvents(r.Events, want) {
			t.Errorf("%v of %d: %v; want %v", q.call, q.size, r.Events, q.want)
		}
		if r.Counts != (api.Counts{}) || r.Ticks != 1 || r.Idle != 1 || slices.Max(r.Words) != 0 {
			t.Errorf("%v of %d: %v", q.call, q.size, r)
		}
	}
}

// 6.1: the first and the last word, of the least and the greatest size.
func TestCellSizes(t *testing.T) {
	for _, size := range []int{1, 2, 63, 64} {
		calls := []api.Call{{Kind: 3, A: 0, B: 4}, {Kind: 3, A: uint64(size - 1), B: 9}}
		r := playCells(t, 1, size, calls, []int{0, 0})
		want := make([]uint64, size)
		want[0] += 4
		want[size-1] += 9
		if !slices.Equal(r.Words, want) {
			t.Errorf("size %d: %v", size, r.Words)
		}
	}
}

// 6.1: the errors of a play, in their order, and no report with them (R7).
func TestPlayErrors(t *testing.T) {
	one, wrong := []api.Call{{}}, []api.Call{{}, {Thread: 2}}
	many := append(slices.Clone(wrong), make([]api.Call, api.MaxCalls-1)...)
	long := make([]int, api.MaxPicks+1)
	for i, q := range []struct {
		n, size int
		calls   []api.Call
		picks   []int
		want    api.Errno
	}{
		{0, 1, one, nil, api.ErrArg},
		{-1, 0, many, long, api.ErrArg},
		{17, 65, wrong, long, api.ErrArg},
		{math.MinInt, 1, one, nil, api.ErrArg},
		{math.MaxInt, 1, one, nil, api.ErrArg},
		{2, 0, many, nil, api.ErrLong},
		{16, 1, many, long, api.ErrLong},
		{2, 0, wrong, long, api.ErrLong},
		{1, 1, one, long, api.ErrLong},
		{2, 0, wrong, nil, api.ErrArg},
		{2, 1, wrong, long[1:], api.ErrArg},
		{1, 1, []api.Call{{Thread: -1}}, nil, api.ErrArg},
		{16, 1, []api.Call{{Thread: 16}}, nil, api.ErrArg},
		{2, 0, one, nil, api.ErrRange},
		{2, -1, one, nil, api.ErrRange},
		{2, 65, nil, long[1:], api.ErrRange},
		{1, math.MinInt, one, nil, api.ErrRange},
		{1, math.MaxInt, one, nil, api.ErrRange},
	} {
		if r, e := loom.Cells(q.n, q.size, q.calls, q.picks); e != q.want || !isZero(r) {
			t.Errorf("%d: Cells(%d, %d, %d calls, %d picks): %v; want %v", i, q.n, q.size, len(q.calls), len(q.picks), e, q.want)
		}
	}
}

// 6.1: plays at the limits.
func TestPlayLimits(t *testing.T) {
	calls := make([]api.Call, api.MaxCalls)
	for i := range calls {
		calls[i] = api.Call{Thread: 15, Kind: 3, B: 1}
	}
	picks := make([]int, api.MaxPicks)
	for i := range picks {
		picks[i] = 15
	}
	r := playCells(t, 16, 64, calls, picks)
	if len(r.Events) != 1000 || r.Ticks != 1000 || r.Idle != api.MaxPicks-1000 || r.Words[0] != 1000 || r.Counts.Add != 1000 {
		t.Error(len(r.Events), r.Ticks, r.Idle, r.Words[0], r.Counts)
	}
	r = playCells(t, 1, 1, nil, nil)
	if len(r.Events) != 0 || r.Ticks != 0 || r.Idle != 0 || !slices.Equal(r.Words, []uint64{0}) {
		t.Error(r)
	}
}

// 6.1: picks of threads that have no call, or do not exist, do nothing; events
// come in the order of their invocations.
func TestIdle(t *testing.T) {
	calls := []api.Call{{Thread: 2, Kind: 3, B: 1}, {Thread: 0, Kind: 3, B: 2}, {Thread: 2, Kind: 3, B: 4}}
	r := playCells(t, 3, 1, calls, []int{1, -1, 0, 3, 2, 0, math.MaxInt, 2, math.MinInt, 2})
	want := []api.Event{
		{Call: 1, Inv: 1, Resp: 1, Steps: 1, Key: []int{2}},
		{Call: 0, Inv: 2, Resp: 2, Steps: 1, Answer: api.Answer{Val: 2}, Key: []int{4}},
		{Call: 2, Inv: 3, Resp: 3, Steps: 1, Answer: api.Answer{Val: 3}, Key: []int{6}},
	}
	if !trial.SameEvents(r.Events, want) || r.Ticks != 3 || r.Idle != 7 || r.Words[0] != 7 {
		t.Error(r)
	}
}

// 6.3, 6.4, 6.5: in many plays of cells, the answers are those of the
// operations one by one, in the order of their keys, and no more picks change them.
func TestCellConsequences(t *testing.T) {
	for seed := range 200 {
		next := trial.Numbers(uint64(seed))
		n, size := 1+next(4), 1+next(3)
		var calls []api.Call
		for range next(20) {
			calls = append(calls, api.Call{
				Thread: next(n), Obj: next(12) / 11, Kind: next(6) - 1,
				A: uint64(next(size + 1)), B: uint64(next(3)), C: uint64(next(3)),
			})
		}
		var picks []int
		for range next(30) {
			picks = append(picks, next(n+1))
		}
		r := playCells(t, n, size, calls, picks)
		if len(r.Events) != r.Ticks || r.Ticks+r.Idle != len(picks) || accesses(t, r.Counts) > r.Ticks {
			t.Fatalf("seed %d: %v", seed, r)
		}
		checkOneByOne(t, size, calls, r)
		part := playCells(t, n, size, calls, picks[:len(picks)/2])
		if !trial.SameEvents(part.Events, r.Events[:len(part.Events)]) {
			t.Errorf("seed %d: events changed: %v; %v", seed, part.Events, r.Events)
		}
	}
}

// checkOneByOne executes the operations of a report in the order of their keys.
func checkOneByOne(t *testing.T, size int, calls []api.Call, r api.Report) {
	t.Helper()
	words := make([]uint64, size)
	last := 0
	own := map[int]int{}
	for _, x := range r.Events {
		c := calls[x.Call]
		if len(x.Key) != 1 || x.Key[0] != 2*x.Resp || x.Resp != x.Inv || x.Resp != last+1 {
			t.Errorf("event %v after the tick %d", x, last)
		}
		if before, ok := own[c.Thread]; ok && before >= x.Call {
			t.Errorf("call %d of thread %d after call %d", x.Call, c.Thread, before)
		}
		own[c.Thread] = x.Call
		last = x.Resp
		if want := effect(words, c); !reflect.DeepEqual(x.Answer, want) {
			t.Errorf("%v: %v; want %v", c, x.Answer, want)
		}
	}
	if !slices.Equal(words, r.Words) {
		t.Errorf("words %v; want %v", r.Words, words)
	}
}

// effect does an operation on words at once.
func effect(words []uint64, c api.Call) api.Answer {
	switch {
	case c.Obj != 0:
		return api.Answer{Err: api.ErrObj}
	case c.Kind < 0 || c.Kind > 3:
		return api.Answer{Err: api.ErrKind}
	case c.A >= uint64(len(words)):
		return api.Answer{Err: api.ErrRange}
	}
	word := &words[c.A]
	was := *word
	switch c.Kind {
	case 1:
		*word, was = c.B, 0
	case 2:
		was = 0
		if *word == c.B {
			*word, was = c.C, 1
		}
	case 3:
		*word += c.B
	}
	return api.Answer{Val: was}
}

// R4: the arguments stay what they are, with their spare capacity, and two
// reports share no memory.
func TestCellsAlone(t *testing.T) {
	calls := append(make([]api.Call, 0, 4), api.Call{Kind: 1, B: 3}, api.Call{Thread: 1, Kind: 0})
	picks := append(make([]int, 0, 5), 0, 1, 1)
	before, picksBefore := slices.Clone(calls[:4]), slices.Clone(picks[:5])
	r := playCells(t, 2, 1, calls, picks)
	other := playCells(t, 2, 1, calls, picks)
	r.Words[0] = 99
	r.Events[0].Key[0] = 99
	r.Events[1] = api.Event{}
	if !slices.Equal(calls[:4], before) || !slices.Equal(picks[:5], picksBefore) {
		t.Error("Cells changed its arguments")
	}
	if other.Words[0] != 3 || other.Events[0].Key[0] != 2 || other.Events[1].Answer.Val != 3 {
		t.Error("two reports share memory:", other)
	}
}
