package linear_test

import (
	"slices"
	"testing"

	"roundelay/api"
	"roundelay/linear"
	"roundelay/run"
	"roundelay/table"
	"roundelay/trial"
)

// played is a play, and its report.
type played struct {
	n     int
	specs []api.Spec
	calls []api.Call
	api.Report
}

// play returns a play, which must have no error.
func play(t *testing.T, n int, specs []api.Spec, calls []api.Call, picks []int) played {
	t.Helper()
	r, e := run.Play(n, specs, calls, picks)
	if e != api.OK {
		t.Fatalf("%d threads, %v, %v, %v: %v", n, specs, calls, picks, e)
	}
	return played{n: n, specs: specs, calls: calls, Report: r}
}

// checkWhole checks that the report of a play is whole.
func checkWhole(t *testing.T, p played) {
	t.Helper()
	if linear.Whole(p.n, p.specs, p.calls, p.Report) {
		return
	}
	i, e := linear.Wrong(p.n, p.specs, p.calls, p.Events)
	t.Fatalf("%d threads, %v, %v: %v: %d is wrong, %v", p.n, p.specs, p.calls, p.Report, i, e)
}

// anyPlay makes a play of any objects, in which some calls are wrong, by picks in
// bursts or one by one.
func anyPlay(t *testing.T, number func(below int) int) played {
	t.Helper()
	n := 1 + number(4)
	if number(4) == 0 {
		n = 1 + number(api.MaxThreads)
	}
	var specs []api.Spec
	for range 1 + number(3) {
		specs = append(specs, trial.AnySpec(number))
	}
	if _, _, e := table.Lay(n, specs); e != api.OK {
		t.Fatal(n, specs, e)
	}
	calls := trial.CallsOn(number, n, specs, number(15*n))
	for i := range calls {
		if number(2) == 0 {
			calls[i].A = uint64(number(1 << number(28)))
		}
	}
	calls = trial.Spoiled(number, calls)
	length := number(40 * (len(calls) + 1))
	if number(3) > 0 {
		return play(t, n, specs, calls, trial.Bursts(number, n+number(2), length))
	}
	var picks []int
	for range length {
		picks = append(picks, number(n))
	}
	return play(t, n, specs, calls, picks)
}

// 28.4, W1: the reports of plays of any objects are whole.
func TestPlays(t *testing.T) {
	number := trial.Numbers(65)
	full, pending := 0, 0
	for range 12000 {
		p := anyPlay(t, number)
		checkWhole(t, p)
		for _, x := range p.Events {
			if x.Answer.Err == api.ErrFull {
				full++
			}
			if x.Resp == 0 && len(x.Key) > 0 {
				pending++
			}
		}
	}
	if full < 1000 || pending < 500 {
		t.Error("too few events of a kind:", full, pending)
	}
}

// 28.4: whole calls, one after the other; their keys are in the order of the calls.
func TestWholeCalls(t *testing.T) {
	number := trial.Numbers(66)
	for range 300 {
		n := 1 + number(api.MaxThreads)
		specs := trial.SomeSpecs(number, 1+number(api.MaxObjs))
		calls := trial.Spoiled(number, trial.CallsOn(number, n, specs, number(80)))
		r, _, e := run.Whole(n, specs, calls)
		if e != api.OK {
			t.Fatal(e)
		}
		checkWhole(t, played{n: n, specs: specs, calls: calls, Report: r})
		for i, k := range linear.Order(r.Events) {
			if i != k {
				t.Fatalf("%v: %v", calls, r.Events)
			}
		}
	}
}

// 28.4: all plays of two threads with all rows of a few picks, each of which stands
// for several steps, for an object of each Kind.
func TestAllPlays(t *testing.T) {
	calls := []api.Call{
		{Thread: 0, A: 1, B: 5}, {Thread: 1, A: 0, B: 6}, {Thread: 1, Kind: 1}, {Thread: 0, Kind: 1},
		{Thread: 1, A: 1, B: 7}, {Thread: 0, Kind: 1}, {Thread: 0, A: 2},
	}
	for _, s := range trial.Specs() {
		for row := range trial.Rows(2, 9) {
			var picks []int
			for i, p := range row {
				picks = append(picks, slices.Repeat([]int{p}, 1+i%4+p)...)
			}
			checkWhole(t, play(t, 2, []api.Spec{s}, calls, picks))
		}
	}
}

// 28.4: as many calls as there can be, on two adders and a queue, and a thread that
// stops in the middle.
func TestLongPlay(t *testing.T) {
	specs := []api.Spec{{Kind: api.Adder}, {Kind: api.Queue, P: 3, Q: 1}, {Kind: api.Adder}}
	number := trial.Numbers(67)
	var calls []api.Call
	for i := range api.MaxCalls {
		c := api.Call{Thread: number(5), Obj: number(3), Kind: 2, A: uint64(i)}
		if c.Obj == 1 {
			c.Kind = number(2)
		}
		calls = append(calls, c)
	}
	picks := slices.Concat(trial.Bursts(number, 5, 9000), trial.Bursts(number, 4, 50000))
	p := play(t, 5, specs, calls, picks)
	checkWhole(t, p)
	if len(p.Events) < 800 {
		t.Error(len(p.Events))
	}
}

// isWrongAt tells whether a report is not whole, and this is the first wrong event.
func isWrongAt(p played, want int) bool {
	i, e := linear.Wrong(p.n, p.specs, p.calls, p.Events)
	return i == want && e == api.OK && !linear.Whole(p.n, p.specs, p.calls, p.Report)
}

// 28.2, 28.3: in the report of a play, an answer that is not the one of the play is
// wrong, and nothing before it is. (ErrFull is not tried: it may be legal, too.)
func TestChangedAnswers(t *testing.T) {
	number := trial.Numbers(68)
	changes := []func(a *api.Answer){
		func(a *api.Answer) { a.Val++ },
		func(a *api.Answer) { a.Val ^= 1 << 40 },
		func(a *api.Answer) { a.List = append(slices.Clone(a.List), 0) },
		func(a *api.Answer) { a.Err = -1 },
		func(a *api.Answer) { *a = api.Answer{Err: api.ErrState} },
	}
	changed := 0
	for range 1500 {
		p := anyPlay(t, number)
		for range 5 {
			if len(p.Events) == 0 {
				break
			}
			x := &p.Events[number(len(p.Events))]
			was := *x
			if x.Resp == 0 {
				continue
			}
			changes[number(len(changes))](&x.Answer)
			i := slices.IndexFunc(p.Events, func(y api.Event) bool { return y.Call == was.Call })
			if !isWrongAt(p, i) {
				t.Fatalf("%v, %v: %v instead of %v is right in %v", p.specs, p.calls, x, was, p.Events)
			}
			*x = was
			changed++
		}
	}
	if changed < 3000 {
		t.Error("too few changes:", changed)
	}
}

// 28.3: a key that is moved out of its event is told, in whatever play.
func TestMovedKeys(t *testing.T) {
	number := trial.Numbers(69)
	for range 1500 {
		p := anyPlay(t, number)
		for i := range p.Events {
			x := &p.Events[i]
			was := x.Key
			last := x.Resp
			if last == 0 {
				last = p.Ticks
			}
			for _, key := range [][]int{{2*x.Inv - 1, 5}, {2*last + 1}} {
				x.Key = key
				if linear.Whole(p.n, p.specs, p.calls, p.Report) {
					t.Fatalf("%v, %v: %v of %v", p.specs, p.calls, x, p.Events)
				}
			}
			x.Key = was
		}
		if len(p.Events) > 1 {
			p.Events[0], p.Events[1] = p.Events[1], p.Events[0]
			if linear.Whole(p.n, p.specs, p.calls, p.Report) {
				t.Fatalf("%v, %v: %v in the wrong order", p.specs, p.calls, p.Events)
			}
		}
	}
}
