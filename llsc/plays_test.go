package llsc_test

import (
	"slices"
	"testing"

	"roundelay/api"
	"roundelay/pick"
	"roundelay/trial"
)

// claim is what a thread claims about a place: that it has not been written since.
type claim struct {
	thread int
	place  uint64
}

// words is linked words as the consequences of the chapter describe them: instead of
// comparing a word with a link, it is recorded which links nobody has broken by a write.
type words struct {
	values []uint64
	writes []uint64
	intact map[claim]bool // for each link: whether nobody has written since
	counts api.Counts
}

// do executes an operation at once.
func (w *words) do(c api.Call) api.Answer {
	if c.Kind < 0 || c.Kind > 2 {
		return api.Answer{Err: api.ErrKind}
	}
	if c.A >= uint64(len(w.values)) || c.Kind == 1 && c.B > 1<<32-1 {
		return api.Answer{Err: api.ErrRange}
	}
	own := claim{c.Thread, c.A}
	intact, linked := w.intact[own]
	switch {
	case c.Kind == 0:
		w.counts.Read++
		w.intact[own] = true
		return api.Answer{Val: w.values[c.A]}
	case !linked:
		return api.Answer{Err: api.ErrState}
	case c.Kind == 2:
		w.counts.Read++
	default:
		w.counts.Swap++
		delete(w.intact, own)
		if intact {
			w.write(c)
		}
	}
	if intact {
		return api.Answer{Val: 1}
	}
	return api.Answer{}
}

// write executes a write that succeeds.
func (w *words) write(c api.Call) {
	w.values[c.A] = c.B
	w.writes[c.A]++
	for other := range w.intact {
		if other.place == c.A {
			w.intact[other] = false
		}
	}
}

// checkPlay compares a play with what the consequences of the chapter say of it
// (38.3), where each operation makes one step (38.4).
func checkPlay(t *testing.T, n, size int, calls []api.Call, picks []int) api.Report {
	t.Helper()
	turns, idle, e := pick.Turns(n, calls, nil, picks)
	if e != api.OK {
		t.Fatal(e)
	}
	w := words{values: make([]uint64, size), writes: make([]uint64, size), intact: map[claim]bool{}}
	want := api.Report{Ticks: len(turns), Idle: idle}
	for i, call := range turns {
		tick := i + 1
		want.Events = append(want.Events, api.Event{
			Call: call, Inv: tick, Resp: tick, Steps: 1, Answer: w.do(calls[call]), Key: []int{2 * tick},
		})
	}
	for i, v := range w.values {
		want.Words = append(want.Words, word(v, w.writes[i]))
	}
	want.Counts = w.counts
	r := play(t, n, size, calls, picks)
	if !trial.SameReport(r, want) {
		t.Fatalf("%d threads, %d words, %v, %v: %v; want %v", n, size, calls, picks, r, want)
	}
	return r
}

// 38.2, 38.3, 38.4: all rows of picks of threads that read, check and write one word,
// with few values, so that they come again.
func TestAllRows(t *testing.T) {
	for _, calls := range [][]api.Call{
		{load(0, 0), check(0, 0), store(0, 0, 1), load(1, 0), store(1, 0, 0), load(1, 0), store(1, 0, 0)},
		{load(0, 0), store(0, 0, 1), check(0, 0), store(0, 0, 2), load(1, 0), check(1, 0), check(1, 0), store(1, 0, 1)},
		{load(0, 0), load(0, 1), store(0, 0, 1), store(0, 1, 1), load(1, 1), load(1, 0), store(1, 1, 2), store(1, 0, 2)},
	} {
		for row := range trial.Rows(2, len(calls)) {
			checkPlay(t, 2, 2, calls, row)
		}
	}
	calls := []api.Call{load(0, 0), store(0, 0, 1), load(1, 0), store(1, 0, 2), load(2, 0), store(2, 0, 0)}
	succeeded := [4]int{}
	for row := range trial.Rows(3, 7) {
		r := checkPlay(t, 3, 1, calls, row)
		succeeded[r.Words[0]>>32]++
	}
	// With seven picks some thread writes, and the first one of those always succeeds.
	if succeeded[0] != 0 || slices.Min(succeeded[1:]) == 0 {
		t.Error(succeeded)
	}
}

// outcome is the kind of an operation, and how it has responded.
type outcome struct {
	kind int
	err  api.Errno
	val  uint64
}

// 38.2, 38.3, 38.4: long plays of any threads and words, some of whose calls are wrong.
func TestLongPlays(t *testing.T) {
	seen := map[outcome]int{}
	for seed := range 2000 {
		number := trial.Numbers(uint64(seed))
		n, size := 1+number(api.MaxThreads), 1+number(4)
		if seed%50 == 0 {
			size = 64
		}
		var calls []api.Call
		for range number(200) {
			c := api.Call{Thread: number(n), Kind: number(3), A: uint64(number(size)), B: uint64(number(3))}
			switch number(40) {
			case 0:
				c.Kind = 5*number(2) - 1
			case 1:
				c.A += uint64(size)
			case 2:
				c.B += 1<<32 - 1
			}
			calls = append(calls, c)
		}
		picks := trial.Bursts(number, n+1, number(400))
		r := checkPlay(t, n, size, calls, picks)
		for _, x := range r.Events {
			seen[outcome{calls[x.Call].Kind, x.Answer.Err, x.Answer.Val}]++
		}
	}
	for _, o := range []outcome{
		{1, api.OK, 0}, {1, api.OK, 1}, {1, api.ErrState, 0}, {1, api.ErrRange, 0},
		{2, api.OK, 0}, {2, api.OK, 1}, {2, api.ErrState, 0}, {2, api.ErrRange, 0},
		{0, api.OK, 0}, {0, api.OK, 2}, {0, api.ErrRange, 0}, {-1, api.ErrKind, 0}, {4, api.ErrKind, 0},
	} {
		if seen[o] < 100 {
			t.Errorf("%v: %d times only", o, seen[o])
		}
	}
}
