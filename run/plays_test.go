package run_test

import (
	"slices"
	"testing"

	"roundelay/api"
	"roundelay/run"
	"roundelay/table"
	"roundelay/trial"
)

// mixed is a play of several objects.
type mixed struct {
	n     int
	specs []api.Spec
	calls []api.Call
	picks []int
}

// mixedPlays makes plays of few and of many threads, of short and of long bursts,
// in which some calls are wrong.
func mixedPlays(seed uint64, count int) []mixed {
	number := trial.Numbers(seed)
	var plays []mixed
	for i := range count {
		m := mixed{n: 1 + number(4)}
		if i%5 == 0 {
			m.n = 1 + number(api.MaxThreads)
		}
		m.specs = trial.SomeSpecs(number, 1+number(api.MaxObjs))
		if i%3 > 0 {
			m.specs = m.specs[:1]
		}
		m.calls = trial.Spoiled(number, trial.CallsOn(number, m.n, m.specs, number(8*m.n)))
		m.picks = trial.Bursts(number, m.n, number(30*(len(m.calls)+1)))
		plays = append(plays, m)
	}
	return plays
}

// accesses returns how many accesses were made.
func accesses(c api.Counts) int {
	return c.Read + c.Write + c.Swap + c.Add + c.Fault
}

// isRefusal tells whether an operation responded with an error in its first step.
func isRefusal(x api.Event) bool {
	return x.Resp != 0 && x.Steps == 1 && x.Answer.Err != api.OK
}

// checkPick checks what one more pick did to the report of a play.
func checkPick(t *testing.T, m mixed, before, after api.Report) {
	t.Helper()
	made, ticked := accesses(after.Counts)-accesses(before.Counts), after.Ticks-before.Ticks
	if after.Counts.Fault != 0 || made < 0 || made > ticked || ticked+after.Idle-before.Idle != 1 {
		t.Fatalf("%v: a pick with %d accesses, %d ticks: %v; then %v", m, made, ticked, before.Counts, after.Counts)
	}
	steps := 0
	for i, x := range after.Events {
		was := api.Event{}
		if i < len(before.Events) {
			was = before.Events[i]
		}
		steps += x.Steps - was.Steps
		if x.Steps > was.Steps && made == 0 && !isRefusal(x) {
			t.Fatalf("%v: a step without an access: %v", m, x)
		}
		if was.Resp != 0 && !trial.SameEvents([]api.Event{was}, []api.Event{x}) {
			t.Fatalf("%v: %v became %v", m, was, x)
		}
	}
	if steps != ticked || len(after.Events) < len(before.Events) {
		t.Fatalf("%v: %d steps in %d ticks", m, steps, ticked)
	}
}

// 25.3, 25.5: pick by pick, there is no more than one access, which is to a word
// that exists, and what has responded remains what it is.
func TestPickByPick(t *testing.T) {
	for _, m := range mixedPlays(44, 150) {
		before := play(t, m.n, m.specs, m.calls, nil)
		for i := range min(len(m.picks), 300) {
			after := play(t, m.n, m.specs, m.calls, m.picks[:i+1])
			checkPick(t, m, before, after)
			before = after
		}
	}
}

// 25.5: whatever picks follow, and however many.
func TestRespondedStays(t *testing.T) {
	number := trial.Numbers(45)
	for _, m := range mixedPlays(46, 500) {
		before := play(t, m.n, m.specs, m.calls, m.picks)
		for range 3 {
			more := slices.Concat(m.picks, trial.Bursts(number, m.n+1, 40*len(m.calls)))
			after := play(t, m.n, m.specs, m.calls, more)
			for i, x := range before.Events {
				if x.Resp != 0 && !trial.SameEvents([]api.Event{x}, after.Events[i:i+1]) {
					t.Fatalf("%v: %v became %v", m, x, after.Events[i])
				}
			}
		}
	}
}

// 25.4: no operation makes more steps than its bound, and one that does not respond
// has made fewer; a thread that is picked so often afterwards responds.
func TestBounds(t *testing.T) {
	for _, m := range mixedPlays(47, 1000) {
		r := play(t, m.n, m.specs, m.calls, m.picks)
		for _, x := range r.Events {
			c := m.calls[x.Call]
			most := trial.MostSteps(m.n, m.specs, c)
			if x.Steps > most || x.Resp == 0 && x.Steps == most {
				t.Fatalf("%v: %v; the bound is %d", m, x, most)
			}
			if x.Resp != 0 || len(m.picks)+most > api.MaxPicks {
				continue
			}
			alone := slices.Concat(m.picks, slices.Repeat([]int{c.Thread}, most-x.Steps))
			if y := event(play(t, m.n, m.specs, m.calls, alone), x.Call); y.Resp == 0 {
				t.Fatalf("%v: %v has not responded: %v", m, x, y)
			}
		}
	}
}

// event returns the event of a call.
func event(r api.Report, call int) api.Event {
	i := slices.IndexFunc(r.Events, func(x api.Event) bool { return x.Call == call })
	return r.Events[i]
}

// isLackOfPlaces tells whether an event is a value that was not put into a queue,
// which depends on the steps of others, and changes nothing.
func isLackOfPlaces(m mixed, x api.Event) bool {
	c := m.calls[x.Call]
	if c.Obj < 0 || c.Obj >= len(m.specs) || m.specs[c.Obj].Kind != api.Queue {
		return false
	}
	return c.Kind == 0 && x.Answer.Err == api.ErrFull
}

// checkOneByOne executes the operations of a report one by one, in the order of
// their keys, and returns how many of them had other operations in between.
func checkOneByOne(t *testing.T, m mixed, r api.Report) int {
	t.Helper()
	ordered, ok := trial.InOrder(r)
	if !ok {
		t.Fatalf("%v: a key is not within its event: %v", m, r.Events)
	}
	ordered = slices.DeleteFunc(ordered, func(x api.Event) bool { return isLackOfPlaces(m, x) })
	var calls []api.Call
	overtaken := 0
	for i, x := range ordered {
		calls = append(calls, m.calls[x.Call])
		if i > 0 && ordered[i-1].Inv > x.Inv {
			overtaken++
		}
	}
	one, _ := whole(t, m.n, m.specs, calls)
	for i, x := range ordered {
		if x.Resp != 0 && !trial.SameAnswer(x.Answer, one.Events[i].Answer) {
			t.Fatalf("%v: %v; one by one: %v", m, x, one.Events[i])
		}
	}
	return overtaken
}

// 25.6: executed one by one, in the order of their keys, the operations have the
// same answers, whether others have taken effect that did not respond, or not.
func TestOneByOne(t *testing.T) {
	overtaken, pending := 0, 0
	for _, m := range mixedPlays(48, 3000) {
		r := play(t, m.n, m.specs, m.calls, m.picks)
		overtaken += checkOneByOne(t, m, r)
		for _, x := range r.Events {
			if x.Resp == 0 && len(x.Key) != 0 {
				pending++
			}
		}
	}
	if overtaken < 1000 || pending < 100 {
		t.Error("too few plays of a kind:", overtaken, pending)
	}
}

// 25.3 to 25.6: all plays of two threads whose calls are on two objects, with all
// rows of a few picks, each of which stands for several steps.
func TestAllPlays(t *testing.T) {
	calls := []api.Call{
		{Thread: 0, A: 1, B: 5}, {Thread: 1, Obj: 1, A: 0}, {Thread: 1, Kind: 1}, {Thread: 0, Obj: 1, Kind: 1},
		{Thread: 1, A: 1, B: 6}, {Thread: 0, Kind: 1},
	}
	for _, a := range trial.Specs() {
		for _, b := range trial.Specs() {
			m := mixed{n: 2, specs: []api.Spec{a, b}, calls: calls}
			for row := range trial.Rows(2, 6) {
				m.picks = nil
				for _, p := range row {
					m.picks = append(m.picks, slices.Repeat([]int{p}, 2+p)...)
				}
				r := play(t, m.n, m.specs, m.calls, m.picks)
				if r.Counts.Fault != 0 || accesses(r.Counts) > r.Ticks {
					t.Fatalf("%v: %v", m, r)
				}
				checkOneByOne(t, m, r)
			}
		}
	}
}

// W6: in any order in the memory, the objects have the same events.
func TestAnyOrder(t *testing.T) {
	for _, m := range mixedPlays(49, 300) {
		r := play(t, m.n, m.specs, m.calls, m.picks)
		specs := slices.Clone(m.specs)
		slices.Reverse(specs)
		calls := slices.Clone(m.calls)
		for i, c := range calls {
			if c.Obj >= 0 && c.Obj < len(specs) {
				calls[i].Obj = len(specs) - 1 - c.Obj
			}
		}
		other := play(t, m.n, specs, calls, m.picks)
		if !trial.SameEvents(r.Events, other.Events) || r.Counts != other.Counts || len(r.Words) != len(other.Words) {
			t.Fatalf("%v: %v; in reverse order: %v", m, r.Events, other.Events)
		}
	}
}

// Objects that are laid by the table have as many words in a play.
func TestSizes(t *testing.T) {
	for _, m := range mixedPlays(50, 100) {
		_, size, e := table.Lay(m.n, m.specs)
		r, _, wrong := run.Whole(m.n, m.specs, m.calls)
		if e != api.OK || wrong != api.OK || len(r.Words) != size {
			t.Errorf("%v: %d words, %v; want %d, %v", m, len(r.Words), wrong, size, e)
		}
	}
}
