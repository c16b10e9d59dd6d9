package audit_test

import (
	"slices"
	"testing"

	"roundelay/api"
	"roundelay/audit"
	"roundelay/crash"
	"roundelay/run"
	"roundelay/trial"
)

// play is a play of any objects, with its report.
type play struct {
	n     int
	specs []api.Spec
	calls []api.Call
	r     api.Report
}

// flaws are those of the play's report.
func (p play) flaws() []audit.Flaw {
	return audit.Check(p.n, p.specs, p.calls, p.r)
}

// somePlay makes a play of any objects, calls and picks.
func somePlay(t *testing.T, number func(below int) int) play {
	t.Helper()
	p := play{n: 1 + number(5)}
	if number(8) == 0 {
		p.n = 1 + number(api.MaxThreads)
	}
	p.specs = trial.SomeSpecs(number, 1+number(4))
	p.calls = trial.Spoiled(number, trial.CallsOn(number, p.n, p.specs, number(8*p.n)))
	r, e := run.Play(p.n, p.specs, p.calls, trial.Bursts(number, p.n+1, 12*len(p.calls)))
	if e != api.OK {
		t.Fatal(e)
	}
	p.r = r
	return p
}

// 34.3: plays of any objects have no flaws, nor have whole calls, and threads that are
// alone when others have stopped.
func TestPlays(t *testing.T) {
	number := trial.Numbers(105)
	pending := 0
	for range 2000 {
		p := somePlay(t, number)
		if l := p.flaws(); len(l) != 0 {
			t.Fatalf("%v: %v", p, l)
		}
		if slices.ContainsFunc(p.r.Events, func(x api.Event) bool { return x.Resp == 0 }) {
			pending++
		}
		var e api.Errno
		if p.r, _, e = run.Whole(p.n, p.specs, p.calls); e != api.OK || len(p.flaws()) != 0 {
			t.Fatalf("%v: %v, %v", p, e, p.flaws())
		}
		picks := trial.Bursts(number, p.n, 4*len(p.calls))
		if p.r, e = crash.Alone(p.n, p.specs, p.calls, picks, number(p.n)); e != api.OK || len(p.flaws()) != 0 {
			t.Fatalf("%v: %v, %v", p, e, p.flaws())
		}
	}
	if pending < 500 {
		t.Error("too few plays with an operation that has not responded:", pending)
	}
}

// 34.3: all rows of picks of short plays, with objects whose operations have keys
// before they respond.
func TestAllPicks(t *testing.T) {
	for _, spec := range trial.Specs() {
		specs := []api.Spec{spec}
		calls := []api.Call{{A: 1}, {Thread: 1, Kind: 1, A: 1}, {Kind: 1}, {Thread: 1, A: 1}}
		for row := range trial.Rows(2, 10) {
			r, e := run.Play(2, specs, calls, row)
			if e != api.OK {
				t.Fatal(e)
			}
			if l := audit.Check(2, specs, calls, r); len(l) != 0 {
				t.Fatalf("%v, %v: %v", spec, row, l)
			}
		}
	}
}

// 34.4: of plays of which one answer is changed, that one is found, if its operation
// has responded: no other answer was legal, except that a queue may be full or not.
func TestChangedAnswers(t *testing.T) {
	number := trial.Numbers(106)
	found := 0
	for range 3000 {
		p := somePlay(t, number)
		if len(p.r.Events) == 0 {
			continue
		}
		i := number(len(p.r.Events))
		x := &p.r.Events[i]
		before := x.Answer
		switch number(3) {
		case 0:
			x.Answer.Val += uint64(1 + number(3))
		case 1:
			x.Answer.Err = api.Errno((int(x.Answer.Err) + 1 + number(12)) % 13)
		case 2:
			x.Answer.List = append(slices.Clone(x.Answer.List), 0)
		}
		if isFull(before) != isFull(x.Answer) && x.Answer.Val == 0 && len(x.Answer.List) == 0 {
			continue
		}
		var want []audit.Flaw
		if x.Resp != 0 {
			want = []audit.Flaw{{What: 6, At: i}}
			found++
		}
		if l := p.flaws(); !slices.Equal(l, want) {
			t.Fatalf("%v, %d: %v; want %v", p, i, l, want)
		}
	}
	if found < 1500 {
		t.Error("too few answers that are not legal:", found)
	}
}

// isFull tells whether an answer is just ErrFull.
func isFull(a api.Answer) bool {
	return trial.SameAnswer(a, api.Answer{Err: api.ErrFull})
}

// spoilPlay changes a few numbers of a play's report.
func spoilPlay(number func(below int) int, r *api.Report) {
	small := func() int { return number(7) - 3 }
	for range 1 + number(3) {
		switch i := number(max(len(r.Events), 1)); {
		case len(r.Events) == 0 || number(4) == 0:
			n := []*int{&r.Ticks, &r.Idle, &r.Counts.Read, &r.Counts.Write, &r.Counts.Swap, &r.Counts.Add, &r.Counts.Fault}
			*n[number(len(n))] += small()
		case number(3) == 0:
			r.Events[i].Key = nil
		case number(2) == 0 && len(r.Events[i].Key) > 0:
			r.Events[i].Key = slices.Clone(r.Events[i].Key)
			r.Events[i].Key[0] += 3 * small()
		case number(8) == 0:
			r.Events[i].Resp = 0
		default:
			n := []*int{&r.Events[i].Call, &r.Events[i].Inv, &r.Events[i].Resp, &r.Events[i].Steps}
			*n[number(len(n))] += small()
		}
	}
}

// 34.1: plays with a few numbers changed have the flaws of the chapter's definition,
// and each flaw occurs.
func TestAsDefined(t *testing.T) {
	number := trial.Numbers(107)
	seen := make([]int, 9)
	for range 20000 {
		p := somePlay(t, number)
		spoilPlay(number, &p.r)
		if number(50) == 0 {
			p.n = 0
		}
		l := p.flaws()
		if want := all(p.n, p.specs, p.calls, p.r); !slices.Equal(l, want) {
			t.Fatalf("%v: %v; want %v", p, l, want)
		}
		for _, x := range l {
			seen[x.What]++
		}
		if len(l) == 0 {
			seen[0]++
		}
	}
	if slices.Min(seen) < 100 {
		t.Error("too few flaws of a kind:", seen)
	}
}
