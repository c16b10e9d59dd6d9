package finish_test

import (
	"slices"
	"testing"

	"roundelay/api"
	"roundelay/finish"
	"roundelay/loom"
	"roundelay/mem"
	"roundelay/trial"
)

// ends is an object of the tests: words of a queue, whose operations finish at
// its ends.
type ends struct {
	k     int
	words []uint64
}

func (e ends) Size(int) (int, api.Errno) { return len(e.words), api.OK }

func (e ends) Words(int) []uint64 { return e.words }

func (e ends) Place(n, b int) loom.Placed {
	return placedEnds{finish.NewLayout(n, e.k, b)}
}

// placedEnds is ends in a memory.
type placedEnds struct {
	layout finish.Layout
}

// Invoke knows the kinds 0 (finish at the tail) and 1 (at the head).
func (e placedEnds) Invoke(c api.Call) (loom.Operation, api.Errno) {
	if c.Kind == 0 {
		return finisher{finish.NewTail(e.layout)}, api.OK
	}
	return finisher{finish.NewHead(e.layout)}, api.OK
}

// finisher is an operation that steps a machine.
type finisher struct {
	machine finish.Machine
}

func (f finisher) Step(t loom.Turn) (api.Answer, bool) {
	return api.Answer{}, f.machine.Step(t)
}

// straight makes accesses for a program that is written straight on.
type straight func(trial.Access) uint64

// read is R.
func (s straight) read(at int) uint64 {
	return s(trial.Access{Kind: 'R', At: at})
}

// swap is C.
func (s straight) swap(at int, old, fresh uint64) bool {
	return s(trial.Access{Kind: 'C', At: at, X: old, Y: fresh}) == 1
}

// described is how finishing goes on, as the chapter tells it.
func described(n, k int) trial.Next {
	return trial.Straight(func(c api.Call, access func(trial.Access) uint64) api.Answer {
		if c.Kind == 0 {
			tailByHand(n, k, straight(access))
		} else {
			headByHand(n, k, straight(access))
		}
		return api.Answer{}
	})
}

// 21.1 to 21.3: threads that finish at the same time, in all orders of their
// steps: each access is that of the chapter, whatever the others did before it.
func TestTogether(t *testing.T) {
	// Behind the node 1 are the nodes 2 and 3; both ends are still at the node 1.
	// Thread 0 waits to put the node 2, thread 1 to take from the node 1, and
	// then from the node 2 directly.
	words := queueWith(2, 1, change{
		0: 1, 1: 1, 2: descriptor(pending, ref(2, 1), 1), 3: descriptor(pending+takes, 1, 2),
		at(2, 1, next): ref(2, 1), at(2, 1, taker): 2, at(2, 1, mark): 1,
		at(2, 2, next): stamp(1, ref(3, 4)), at(2, 2, taker): stamp(1, 34), at(2, 2, value): 1<<32 + 8, at(2, 2, mark): 3,
		at(2, 3, next): stamp(4, 0), at(2, 3, taker): stamp(4, 0), at(2, 3, value): 4<<32 + 9, at(2, 3, mark): 9,
	})
	lost, all := 0, 0
	for _, calls := range [][]api.Call{
		{{Thread: 0}, {Thread: 1}},
		{{Thread: 0, Kind: 1}, {Thread: 1, Kind: 1}},
		{{Thread: 0, Kind: 1}, {Thread: 1, Kind: 1}, {Thread: 1, Kind: 1}},
		{{Thread: 0}, {Thread: 0}, {Thread: 1, Kind: 1}, {Thread: 1}},
	} {
		for picks := range trial.Rows(2, 13) {
			picks = append(picks, 0, 1, 0, 1, 0, 1, 0, 1, 0, 1, 0, 1)
			walk := checkTogether(t, words, calls, picks)
			for _, made := range walk.Made {
				for _, a := range made {
					if a.Kind == 'C' && a.Result == 0 {
						lost++
					}
				}
			}
			all++
		}
	}
	if lost < all {
		t.Errorf("%d accesses failed in %d plays", lost, all)
	}
}

// checkTogether checks a play of two threads against the accesses of the
// chapter, and at another place in the memory.
func checkTogether(t *testing.T, words []uint64, calls []api.Call, picks []int) trial.Walk {
	t.Helper()
	walk, ok := trial.PlayFrom(2, words, calls, picks, described(2, 1))
	if !ok {
		t.Fatalf("no play of %v", calls)
	}
	for i := range walk.Report.Events {
		if x := &walk.Report.Events[i]; x.Resp != 0 {
			x.Key = []int{2 * x.Resp}
		}
	}
	r, e := loom.Play(2, calls, picks, ends{k: 1, words: words})
	if e != api.OK || !trial.SameReport(r, walk.Report) {
		t.Fatalf("%v of %v: %v, %v; want %v", picks, calls, r, e, walk.Report)
	}
	away := slices.Clone(calls)
	for i := range away {
		away[i].Obj = 1
	}
	far, e := loom.Play(2, away, picks, loom.NewCells(5), ends{k: 1, words: words})
	if e != api.OK || !trial.SameEvents(r.Events, far.Events) || !slices.Equal(r.Words, far.Words[5:]) {
		t.Fatalf("%v of %v: %v, %v; at another place %v", picks, calls, r, e, far)
	}
	return walk
}

// 21.2: a thread that stops while it finishes, and goes on when others have
// finished, and the node and the descriptor are in use again, changes nothing.
func TestLate(t *testing.T) {
	atTail := queueWith(1, 2, change{1: 1, 2: descriptor(pending, ref(2, 1), 7), at(1, 1, next): ref(2, 1)})
	atHead := queueWith(1, 2, change{
		0: 1, 1: ref(2, 1), 2: descriptor(pending+takes, 1, 7),
		at(1, 1, next): ref(2, 1), at(1, 1, taker): 1, at(1, 1, mark): 1, at(1, 2, value): 1<<32 + 8,
	})
	for _, q := range []struct {
		words []uint64
		begin func(finish.Layout) finish.Machine
		steps int // how many there are up to the access that moves the end
	}{{atTail, finish.NewTail, 5}, {atHead, finish.NewHead, 7}} {
		for made := range q.steps {
			checkLate(t, q.words, q.begin, made)
		}
	}
}

// checkLate checks a machine that stops when it has made so many accesses.
func checkLate(t *testing.T, words []uint64, begin func(finish.Layout) finish.Machine, made int) {
	t.Helper()
	m, e := mem.New(words)
	if e != api.OK {
		t.Fatal(e)
	}
	turn := loom.Turn{Memory: m}
	layout := finish.NewLayout(1, 2, 0)
	late, other := begin(layout), begin(layout)
	for i := range made {
		if late.Step(turn) {
			t.Fatal("it ends after", i)
		}
	}
	for !other.Step(turn) {
	}
	if w := m.Words(); w[2]%2 == pending || w[0] == 1 && w[1] == 1 {
		t.Fatal("it was not finished:", w)
	}
	for field, w := range []uint64{stamp(1, 0), stamp(1, 0), 1<<32 + 9, 3} {
		m.Write(at(1, 1, field), w)
	}
	m.Write(2, descriptor(pending+takes, 0, 8))
	before := m.Words()
	for !late.Step(turn) {
	}
	if after := m.Words(); !slices.Equal(before, after) {
		t.Errorf("%d accesses before: %v became %v", made, before, after)
	}
}
