package loom_test

import (
	"reflect"
	"slices"
	"testing"

	"roundelay/api"
	"roundelay/loom"
	"roundelay/trial"
)

// row is an object of the tests: words that begin as 10, 11 and so on, whose
// operations take several steps.
type row struct {
	size int
	err  api.Errno
}

func (r row) Size(int) (int, api.Errno) { return r.size, r.err }

func (r row) Words(int) []uint64 {
	var l []uint64
	for i := range r.size {
		l = append(l, uint64(10+i))
	}
	return l
}

func (r row) Place(n, b int) loom.Placed {
	return &placedRow{begin: b, size: r.size, own: make([]uint64, n)}
}

// placedRow counts the operations of each thread, which is its private data.
type placedRow struct {
	begin, size int
	own         []uint64
	list        []uint64
}

// Invoke knows the kinds 0 (increase), 1 (sum), and 2 (count without an access).
func (p *placedRow) Invoke(c api.Call) (loom.Operation, api.Errno) {
	switch c.Kind {
	case 0:
		p.own[c.Thread]++
		return &increase{at: p.begin + int(c.A)}, api.OK
	case 1:
		return &sum{row: p}, api.OK
	case 2:
		return count(p.own[c.Thread]), api.OK
	}
	return nil, api.ErrKind
}

// increase reads a word, and writes it: it takes effect in its first step, and
// would change its key if it were asked again when it has responded.
type increase struct {
	at   int
	was  uint64
	done bool
	key  []int
}

func (o *increase) Step(t loom.Turn) (api.Answer, bool) {
	o.key = append(o.key, 2*t.Tick)
	if len(o.key) == 1 {
		o.was = t.Read(o.at)
		return api.Answer{}, false
	}
	t.Write(o.at, o.was+1)
	o.done = true
	return api.Answer{Val: o.was, List: []uint64{o.was}}, true
}

func (o *increase) Key() []int {
	key := o.key
	if o.done {
		o.key = append(slices.Clone(o.key), -1)
	}
	return key
}

// sum reads all words; its key is empty, so it has none of its own.
type sum struct {
	row  *placedRow
	next int
	sum  uint64
}

func (o *sum) Step(t loom.Turn) (api.Answer, bool) {
	o.sum += t.Read(o.row.begin + o.next)
	o.next++
	if o.next < o.row.size {
		return api.Answer{}, false
	}
	o.row.list = append(o.row.list, o.sum)
	return api.Answer{Val: o.sum, List: o.row.list}, true
}

func (o *sum) Key() []int { return nil }

// count responds without an access.
type count uint64

func (o count) Step(loom.Turn) (api.Answer, bool) { return api.Answer{Val: uint64(o)}, true }

// 6.3: operations of several steps, on objects that lie one after the other;
// the private data of a thread persists, and no other thread has it.
func TestPlay(t *testing.T) {
	calls := []api.Call{
		{Thread: 0, Obj: 1, Kind: 0, A: 1},
		{Thread: 1, Obj: 1, Kind: 1},
		{Thread: 1, Obj: 1, Kind: 2},
		{Thread: 0, Obj: 1, Kind: 2},
		{Thread: 0, Obj: 0, Kind: 1, B: 7},
		{Thread: 1, Obj: 2},
		{Thread: 0, Obj: 1, Kind: 3},
		{Thread: 0, Obj: -1},
		{Thread: 1, Obj: 1, Kind: 0, A: 0},
	}
	picks := []int{0, 1, 0, 1, 5, 1, 0, 0, 1, 0, 0, 1, 0, 1, 1}
	r, e := loom.Play(2, calls, picks, loom.NewCells(2), row{size: 2})
	want := []api.Event{
		{Call: 0, Inv: 1, Resp: 3, Steps: 2, Answer: api.Answer{Val: 11, List: []uint64{11}}, Key: []int{2, 6}},
		{Call: 1, Inv: 2, Resp: 4, Steps: 2, Answer: api.Answer{Val: 22, List: []uint64{22}}, Key: []int{8}},
		{Call: 2, Inv: 5, Resp: 5, Steps: 1, Key: []int{10}},
		{Call: 3, Inv: 6, Resp: 6, Steps: 1, Answer: api.Answer{Val: 1}, Key: []int{12}},
		{Call: 4, Inv: 7, Resp: 7, Steps: 1, Key: []int{14}},
		{Call: 5, Inv: 8, Resp: 8, Steps: 1, Answer: api.Answer{Err: api.ErrObj}, Key: []int{16}},
		{Call: 6, Inv: 9, Resp: 9, Steps: 1, Answer: api.Answer{Err: api.ErrKind}, Key: []int{18}},
		{Call: 7, Inv: 10, Resp: 10, Steps: 1, Answer: api.Answer{Err: api.ErrObj}, Key: []int{20}},
		{Call: 8, Inv: 11, Resp: 12, Steps: 2, Answer: api.Answer{Val: 10, List: []uint64{10}}, Key: []int{22, 24}},
	}
	if e != api.OK || !trial.SameEvents(r.Events, want) {
		t.Fatalf("%v\n%v\nwant\n%v", e, r.Events, want)
	}
	if !slices.Equal(r.Words, []uint64{7, 0, 11, 12}) || r.Ticks != 12 || r.Idle != 3 {
		t.Error(r)
	}
	if r.Counts != (api.Counts{Read: 4, Write: 3}) {
		t.Error(r.Counts)
	}
}

// Words: an operation that has not responded has its ticks and steps, but no
// answer; it has a key only if it tells one.
func TestNotResponded(t *testing.T) {
	calls := []api.Call{{Thread: 0, Kind: 0}, {Thread: 1, Kind: 1}, {Thread: 0, Kind: 1}, {Thread: 2, Kind: 0}}
	r, e := loom.Play(3, calls, []int{1, 0, 1}, row{size: 3})
	want := []api.Event{
		{Call: 1, Inv: 1, Steps: 2},
		{Call: 0, Inv: 2, Steps: 1, Key: []int{4}},
	}
	if e != api.OK || !trial.SameEvents(r.Events, want) || r.Ticks != 3 || r.Idle != 0 {
		t.Error(e, r)
	}
}

// 6.4: whatever picks follow, an operation that has responded keeps its event.
func TestRespondedStays(t *testing.T) {
	for seed := range 100 {
		next := trial.Numbers(uint64(seed))
		var calls []api.Call
		for range 12 {
			calls = append(calls, api.Call{Thread: next(3), Obj: next(3), Kind: next(4), A: uint64(next(2))})
		}
		l, e := loom.New(3, calls, row{size: 2}, row{size: 4})
		if e != api.OK {
			t.Fatal(e)
		}
		var picks []int
		before := l.Report()
		for range 40 {
			p := next(4)
			picks = append(picks, p)
			told := l.Pick(p)
			r := l.Report()
			checkStep(t, before, r)
			if responses(r)-responses(before) > 0 != told {
				t.Errorf("the pick told %v: %v; then %v", told, before, r)
			}
			before = r
		}
		r, e := loom.Play(3, calls, picks, row{size: 2}, row{size: 4})
		if e != api.OK || !slices.Equal(r.Words, before.Words) || r.Counts != before.Counts || len(r.Events) != len(before.Events) {
			t.Errorf("seed %d: a play as a whole: %v; pick by pick: %v", seed, r, before)
		}
	}
}

// responses returns how many operations have responded.
func responses(r api.Report) int {
	count := 0
	for _, x := range r.Events {
		if x.Resp != 0 {
			count++
		}
	}
	return count
}

// checkStep checks what one pick did.
func checkStep(t *testing.T, before, after api.Report) {
	t.Helper()
	if made := accesses(t, after.Counts) - accesses(t, before.Counts); made < 0 || made > after.Ticks-before.Ticks {
		t.Errorf("%d accesses in %d ticks", made, after.Ticks-before.Ticks)
	}
	if after.Ticks+after.Idle != before.Ticks+before.Idle+1 {
		t.Errorf("a pick is neither a tick nor idle: %v; %v", before, after)
	}
	for i, x := range before.Events {
		if x.Resp != 0 && !reflect.DeepEqual(x, after.Events[i]) {
			t.Errorf("the event %v became %v", x, after.Events[i])
		}
	}
	steps := 0
	for _, x := range after.Events {
		steps += x.Steps
	}
	if steps != after.Ticks {
		t.Errorf("%d steps in %d ticks", steps, after.Ticks)
	}
}

// R4: no two lists of reports share memory, not even with those of an operation.
func TestReportsAlone(t *testing.T) {
	calls := []api.Call{{Kind: 0}, {Kind: 1}, {Kind: 1}, {Kind: 0}}
	l, e := loom.New(1, calls, row{size: 1})
	if e != api.OK {
		t.Fatal(e)
	}
	calls[1].Kind = 3
	for range 5 {
		l.Pick(0)
	}
	first, second := l.Report(), l.Report()
	for i := range first.Events {
		x := &first.Events[i]
		for j := range x.Key {
			x.Key[j] = 99
		}
		for j := range x.Answer.List {
			x.Answer.List[j] = 99
		}
	}
	first.Words[0] = 99
	want := []api.Event{
		{Call: 0, Inv: 1, Resp: 2, Steps: 2, Answer: api.Answer{Val: 10, List: []uint64{10}}, Key: []int{2, 4}},
		{Call: 1, Inv: 3, Resp: 3, Steps: 1, Answer: api.Answer{Val: 11, List: []uint64{11}}, Key: []int{6}},
		{Call: 2, Inv: 4, Resp: 4, Steps: 1, Answer: api.Answer{Val: 11, List: []uint64{11, 11}}, Key: []int{8}},
		{Call: 3, Inv: 5, Steps: 1, Key: []int{10}},
	}
	third := l.Report()
	if !trial.SameEvents(second.Events, want) || !trial.SameEvents(third.Events, want) || third.Words[0] != 11 {
		t.Errorf("%v\n%v\nwant\n%v", second.Events, third.Events, want)
	}
}

// W6: the place of cells in the memory changes no event.
func TestCellsElsewhere(t *testing.T) {
	calls := []api.Call{
		{Obj: 1, Kind: 1, A: 1, B: 6}, {Obj: 1, Kind: 2, A: 1, B: 6, C: 3}, {Obj: 1, Kind: 3, A: 0, B: 2},
		{Obj: 1, Kind: 0, A: 1}, {Obj: 1, Kind: 0, A: 2},
	}
	picks := make([]int, len(calls))
	near, _ := loom.Play(1, calls, picks, row{}, loom.NewCells(2))
	far, _ := loom.Play(1, calls, picks, row{size: 3}, loom.NewCells(2))
	if len(far.Events) != 5 || !trial.SameEvents(near.Events, far.Events) || far.Events[3].Answer.Val != 3 {
		t.Errorf("%v; %v", near.Events, far.Events)
	}
	if !slices.Equal(near.Words, []uint64{2, 3}) || !slices.Equal(far.Words, []uint64{10, 11, 12, 2, 3}) {
		t.Errorf("%v; %v", near.Words, far.Words)
	}
}

// 6.1: what is wrong with a play apart from its objects can be asked alone.
func TestCheck(t *testing.T) {
	for _, w := range trial.WrongPlays() {
		if e := loom.Check(w.N, w.Calls, w.Picks); e != w.Want {
			t.Errorf("%d threads, %d calls, %d picks: %v; want %v", w.N, len(w.Calls), len(w.Picks), e, w.Want)
		}
	}
	if e := loom.Check(16, make([]api.Call, api.MaxCalls), make([]int, api.MaxPicks)); e != api.OK {
		t.Error(e)
	}
}

// Words: the errors of the objects come last; wrong parameters precede that
// there are too many words.
func TestObjectErrors(t *testing.T) {
	full := row{size: api.MaxWords}
	for i, q := range []struct {
		n       int
		objects []loom.Object
		want    api.Errno
	}{
		{0, []loom.Object{row{err: api.ErrRange}}, api.ErrArg},
		{1, nil, api.OK},
		{1, []loom.Object{full}, api.OK},
		{1, []loom.Object{full, row{}}, api.OK},
		{1, []loom.Object{full, row{size: 1}}, api.ErrLong},
		{1, []loom.Object{row{size: 1}, full}, api.ErrLong},
		{1, []loom.Object{row{size: api.MaxWords + 1}}, api.ErrLong},
		{1, []loom.Object{row{size: 1<<63 - 1}, row{size: 1<<63 - 1}}, api.ErrLong},
		{1, []loom.Object{full, row{size: 1}, row{err: api.ErrRange}}, api.ErrRange},
		{1, []loom.Object{row{err: api.ErrKind}, row{err: api.ErrRange}}, api.ErrKind},
		{1, []loom.Object{loom.NewCells(64), loom.NewCells(65)}, api.ErrRange},
	} {
		r, e := loom.Play(q.n, nil, nil, q.objects...)
		if e != q.want || e != api.OK && !isZero(r) {
			t.Errorf("%d: %v; want %v", i, e, q.want)
		}
		if l, e := loom.New(q.n, nil, q.objects...); e != q.want || (l != nil) != (e == api.OK) {
			t.Errorf("%d: New: %v; want %v", i, e, q.want)
		}
	}
}

// 6.1, R5: cells that are played again begin as they began before.
func TestAgain(t *testing.T) {
	objects := []loom.Object{loom.NewCells(1), row{size: 2}}
	calls := []api.Call{{Kind: 3, B: 4}, {Obj: 1, Kind: 0}, {Obj: 1, Kind: 2}}
	picks := []int{0, 0, 0, 0}
	first, _ := loom.Play(1, calls, picks, objects...)
	second, _ := loom.Play(1, calls, picks, objects...)
	if len(first.Events) != 3 || !reflect.DeepEqual(first, second) {
		t.Errorf("%v; %v", first, second)
	}
}
