package crash_test

import (
	"slices"
	"testing"

	"roundelay/api"
	"roundelay/crash"
	"roundelay/linear"
	"roundelay/trial"
)

// 30.2, the example of the chapter: a thread stops in the middle of a put. Its 9th
// step inserts the node; from then on, another thread takes the value, and before
// that it finds nothing.
func TestExample(t *testing.T) {
	specs := []api.Spec{{Kind: api.Queue, P: 1, Q: 1}}
	calls := []api.Call{{Thread: 0, A: 5}, {Thread: 1, Kind: 1}}
	for made := range 13 {
		r := alone(t, 2, specs, calls, make([]int, made), 1)
		want := api.Answer{Err: api.ErrEmpty}
		if made >= 9 {
			want = api.Answer{Val: 5}
		}
		if x := r.Events[len(r.Events)-1]; x.Call != 1 || x.Resp == 0 || !trial.SameAnswer(x.Answer, want) {
			t.Errorf("after %d picks: %v; want %v", made, x, want)
		}
	}
}

// stopped is a play in which threads stop.
type stopped struct {
	n     int
	specs []api.Spec
	calls []api.Call
	picks []int
}

// stoppedPlays makes plays of any objects, in which some calls are wrong, and threads
// stop wherever they are.
func stoppedPlays(seed uint64, count int) []stopped {
	number := trial.Numbers(seed)
	var plays []stopped
	for i := range count {
		m := stopped{n: 1 + number(4)}
		if i%5 == 0 {
			m.n = 1 + number(api.MaxThreads)
		}
		for range 1 + number(3) {
			m.specs = append(m.specs, trial.AnySpec(number))
		}
		m.calls = trial.Spoiled(number, trial.CallsOn(number, m.n, m.specs, number(8*m.n)))
		picks := trial.Bursts(number, m.n, number(30*(len(m.calls)+1)))
		m.picks = crash.Without(picks, someStops(number, m.n, len(picks)/m.n))
		plays = append(plays, m)
	}
	return plays
}

// current returns the number of the call that a thread is to execute after a play,
// how many steps it has made, and whether there is such a call.
func current(m stopped, r api.Report, thread int) (call, steps int, ok bool) {
	for i, c := range m.calls {
		if c.Thread != thread {
			continue
		}
		k := slices.IndexFunc(r.Events, func(x api.Event) bool { return x.Call == i })
		if k < 0 {
			return i, 0, true
		}
		if r.Events[k].Resp == 0 {
			return i, r.Events[k].Steps, true
		}
	}
	return 0, 0, false
}

// checkThread checks what Goes and Alone return for a thread of a play, and tells
// whether it has a call left that it has begun.
func checkThread(t *testing.T, m stopped, r api.Report, thread int) bool {
	t.Helper()
	more := goes(t, m.n, m.specs, m.calls, m.picks, thread)
	after := alone(t, m.n, m.specs, m.calls, m.picks, thread)
	want := play(t, m.n, m.specs, m.calls, slices.Concat(m.picks, slices.Repeat([]int{thread}, more)))
	if !trial.SameReport(after, want) || after.Ticks != r.Ticks+more || after.Idle != r.Idle {
		t.Fatalf("%v, thread %d: %v after %d picks; want %v", m, thread, after, more, want)
	}
	call, steps, ok := current(m, r, thread)
	if !ok {
		if more != 0 {
			t.Fatalf("%v, thread %d: %d picks, but no call", m, thread, more)
		}
		return false
	}
	k := slices.IndexFunc(after.Events, func(x api.Event) bool { return x.Call == call })
	if k < 0 || after.Events[k].Resp != after.Ticks || after.Events[k].Steps != steps+more {
		t.Fatalf("%v, thread %d: %v after %d picks", m, thread, after, more)
	}
	if most := trial.MostSteps(m.n, m.specs, m.calls[call]); more > most-steps || more < 1 {
		t.Fatalf("%v, thread %d: %d picks after %d steps; the bound is %d", m, thread, more, steps, most)
	}
	return steps > 0
}

// 30.2, 30.3, W2: whichever threads stop, and wherever, each thread that is picked
// alone responds within its bound, with the last one of these picks.
func TestBounds(t *testing.T) {
	begun := 0
	for _, m := range stoppedPlays(82, 1500) {
		r := play(t, m.n, m.specs, m.calls, m.picks)
		for thread := -1; thread <= m.n; thread++ {
			if checkThread(t, m, r, thread) {
				begun++
			}
		}
	}
	if begun < 1000 {
		t.Error("too few operations that had begun:", begun)
	}
}

// 30.3: one thread after the other responds alone, until no thread has a call left.
func TestAllRespond(t *testing.T) {
	number := trial.Numbers(83)
	for _, m := range stoppedPlays(84, 400) {
		for {
			r := play(t, m.n, m.specs, m.calls, m.picks)
			var left []int
			for thread := range m.n {
				if _, _, ok := current(m, r, thread); ok {
					left = append(left, thread)
				}
			}
			if len(left) == 0 {
				break
			}
			thread := left[number(len(left))]
			more := goes(t, m.n, m.specs, m.calls, m.picks, thread)
			m.picks = slices.Concat(m.picks, slices.Repeat([]int{thread}, more))
		}
		r := play(t, m.n, m.specs, m.calls, m.picks)
		if len(r.Events) != len(m.calls) || !linear.Whole(m.n, m.specs, m.calls, r) {
			t.Fatalf("%v: %v", m, r.Events)
		}
	}
}

// 30.3, W1, W2: two threads stop in all places of their operations on a queue, and
// the third one puts and takes: its reports are whole, and within the bounds.
func TestTwoStops(t *testing.T) {
	for _, s := range []api.Spec{{Kind: api.Queue, P: 2}, {Kind: api.Queue, P: 1, Q: 1}, {Kind: api.Queue, P: 2, Q: 3}} {
		for kinds := range 8 {
			m := stopped{n: 3, specs: []api.Spec{s}}
			m.calls = []api.Call{
				{Thread: 0, Kind: kinds & 1, A: 5}, {Thread: 1, Kind: kinds >> 1 & 1, A: 6}, {Thread: 2, Kind: kinds >> 2, A: 7}, {Thread: 2, Kind: 1},
			}
			picks := slices.Repeat([]int{0, 1}, 40)
			for row := range trial.Rows(40, 2) {
				m.picks = crash.Without(picks, []crash.Stop{{0, row[0]}, {1, row[1]}})
				m.picks = slices.Concat(m.picks, slices.Repeat([]int{2}, goes(t, 3, m.specs, m.calls, m.picks, 2)))
				r := alone(t, 3, m.specs, m.calls, m.picks, 2)
				if !linear.Whole(3, m.specs, m.calls, r) || r.Events[len(r.Events)-1].Call != 3 || r.Events[len(r.Events)-1].Resp == 0 {
					t.Fatalf("%v: %v", m, r)
				}
			}
		}
	}
}
