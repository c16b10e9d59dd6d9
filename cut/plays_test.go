package cut_test

import (
	"slices"
	"testing"

	"roundelay/api"
	"roundelay/cut"
	"roundelay/run"
	"roundelay/trial"
)

// played is a play of any objects.
type played struct {
	n     int
	specs []api.Spec
	calls []api.Call
	picks []int
	r     api.Report
}

// play returns a play, which must have no error.
func play(t *testing.T, n int, specs []api.Spec, calls []api.Call, picks []int) api.Report {
	t.Helper()
	r, e := run.Play(n, specs, calls, picks)
	if e != api.OK {
		t.Fatalf("Play(%d, %v, %v, %v): %v", n, specs, calls, picks, e)
	}
	return r
}

// somePlay makes a play of any objects, in which some calls are wrong, and some picks
// are of threads that do not exist.
func somePlay(t *testing.T, number func(below int) int) played {
	t.Helper()
	m := played{n: 1 + number(5)}
	if number(8) == 0 {
		m.n = 1 + number(api.MaxThreads)
	}
	m.specs = trial.SomeSpecs(number, 1+number(4))
	m.calls = trial.Spoiled(number, trial.CallsOn(number, m.n, m.specs, number(6*m.n)))
	m.picks = trial.Bursts(number, m.n+1, number(20*(len(m.calls)+1)))
	m.r = play(t, m.n, m.specs, m.calls, m.picks)
	return m
}

// 36.3: in a play, each event has as many ticks as Steps, the first one is its Inv, and
// the last one its Resp.
func TestTicksOfPlays(t *testing.T) {
	number := trial.Numbers(121)
	pending := 0
	for range 1500 {
		m := somePlay(t, number)
		l := ticks(t, m.n, m.calls, m.r.Events, m.picks)
		if len(l) != m.r.Ticks {
			t.Fatalf("%v: %d ticks; want %d", m, len(l), m.r.Ticks)
		}
		own := make([][]int, len(m.calls)) // the ticks of each call
		for i, x := range l {
			if m.calls[x.Call].Thread != x.Thread {
				t.Fatalf("%v: the call %d is not of thread %d", m, x.Call, x.Thread)
			}
			own[x.Call] = append(own[x.Call], i+1)
		}
		for _, x := range m.r.Events {
			numbers := own[x.Call]
			if len(numbers) != x.Steps || numbers[0] != x.Inv {
				t.Fatalf("%v: %v has the ticks %v", m, x, numbers)
			}
			if last := numbers[len(numbers)-1]; x.Resp != 0 && last != x.Resp {
				t.Fatalf("%v: the last tick of %v is %d", m, x, last)
			}
			if x.Resp == 0 {
				pending++
			}
			checkMarks(t, x, l, numbers)
		}
	}
	if pending < 500 {
		t.Error("too few events that have not responded:", pending)
	}
}

// checkMarks checks which ones of an event's ticks are marked as its first or last one.
func checkMarks(t *testing.T, x api.Event, l []cut.Tick, numbers []int) {
	t.Helper()
	for _, k := range numbers {
		if tick := l[k-1]; tick.First != (k == x.Inv) || tick.Last != (k == x.Resp) {
			t.Fatalf("%v: %v at %d", x, tick, k)
		}
	}
}

// 36.4: the state at each tick is that of the play with the picks up to it, whose
// operations that have not responded may have keys.
func TestStatesOfPlays(t *testing.T) {
	number := trial.Numbers(122)
	states, keyed := 0, 0
	for range 250 {
		m := somePlay(t, number)
		for i := range min(len(m.picks), 200) + 1 {
			r := play(t, m.n, m.specs, m.calls, m.picks[:i])
			want := r.Events
			for k := range want {
				if want[k].Resp == 0 {
					keyed += len(want[k].Key)
					want[k].Key = nil
				}
			}
			if l := at(t, m.n, m.calls, m.r.Events, m.picks, r.Ticks); !trial.SameEvents(l, want) {
				t.Fatalf("%v: at %d: %v; want %v", m, r.Ticks, l, want)
			}
			states++
		}
		// Behind the last tick, nothing changes.
		last, later := at(t, m.n, m.calls, m.r.Events, m.picks, m.r.Ticks), at(t, m.n, m.calls, m.r.Events, m.picks, m.r.Ticks+1)
		if !trial.SameEvents(last, later) {
			t.Fatalf("%v: %v; later: %v", m, last, later)
		}
	}
	if states < 10000 || keyed < 500 {
		t.Error("too few states, or keys of operations that have not responded:", states, keyed)
	}
}

// ticksAsDefined is the chapter's definition of ticks, searched anew for each pick.
func ticksAsDefined(calls []api.Call, l []api.Event, picks []int) []cut.Tick {
	var found []cut.Tick
	finished := make([]bool, len(calls))
	for _, p := range picks {
		call := slices.IndexFunc(calls, func(c api.Call) bool { return c.Thread == p })
		for call >= 0 && call < len(calls) && (finished[call] || calls[call].Thread != p) {
			call++
		}
		if call < 0 || call == len(calls) {
			continue
		}
		x := cut.Tick{Thread: p, Call: call}
		event := slices.IndexFunc(l, func(x api.Event) bool { return x.Call == call })
		if event >= 0 {
			x.First = l[event].Inv == len(found)+1
			x.Last = l[event].Resp == len(found)+1
		}
		finished[call] = x.Last
		found = append(found, x)
	}
	return found
}

// atAsDefined is the chapter's definition of the events at a tick.
func atAsDefined(l []api.Event, all []cut.Tick, tick int) []api.Event {
	var found []api.Event
	for _, x := range l {
		if x.Inv > tick {
			continue
		}
		x.Steps = 0
		for i, y := range all {
			if i+1 <= tick && y.Call == x.Call {
				x.Steps++
			}
		}
		if x.Resp == 0 || x.Resp > tick {
			x.Resp, x.Answer, x.Key = 0, api.Answer{}, nil
		}
		found = append(found, x)
	}
	return found
}

// 36.1, 36.2: any events, calls and picks, whether or not they are of a play.
func TestAsDefined(t *testing.T) {
	number := trial.Numbers(123)
	finished := 0
	for range 12000 {
		n := 1 + number(4)
		var calls []api.Call
		for range number(6) {
			calls = append(calls, api.Call{Thread: number(n)})
		}
		var l []api.Event
		for range number(9) {
			l = append(l, someEvent(number(8)-1, number(8)-1, number(8)-1, number(4)))
		}
		var picks []int
		for range number(15) {
			picks = append(picks, number(n+2)-1)
		}
		want := ticksAsDefined(calls, l, picks)
		if found := ticks(t, n, calls, l, picks); !slices.Equal(found, want) {
			t.Fatalf("%v, %v, %v: %v; want %v", calls, l, picks, found, want)
		}
		for _, x := range want {
			if x.Last {
				finished++
			}
		}
		tick := number(16) - 2
		if found := at(t, n, calls, l, picks, tick); !trial.SameEvents(found, atAsDefined(l, want, tick)) {
			t.Fatalf("%v, %v, %v, %d: %v; want %v", calls, l, picks, tick, found, atAsDefined(l, want, tick))
		}
	}
	if finished < 1000 {
		t.Error("too few calls that are finished:", finished)
	}
}
