package history_test

import (
	"slices"
	"testing"

	"roundelay/api"
	"roundelay/history"
	"roundelay/run"
	"roundelay/trial"
)

// checkPlay checks that the events of a play form a history, in which the threads
// and the pending events are those of the play, and returns its width.
func checkPlay(t *testing.T, n int, calls []api.Call, r api.Report) int {
	t.Helper()
	if !history.Right(n, calls, r.Events, r.Ticks) {
		t.Fatalf("%d threads, %v: no history of %d ticks: %v", n, calls, r.Ticks, r.Events)
	}
	if len(r.Events) > 0 && history.Right(n, calls, r.Events, slices.MaxFunc(r.Events, byEnd).Resp-1) {
		t.Fatalf("%v: a history of fewer ticks: %v", calls, r.Events)
	}
	pending := history.Pending(r.Events)
	if len(pending) > n {
		t.Fatalf("%v: %v are pending", calls, pending)
	}
	count := 0
	for thread := range n {
		own := history.Of(calls, r.Events, thread)
		count += len(own)
		for k := range len(own) - 1 {
			if !history.Ahead(r.Events, own[k], own[k+1]) || slices.Contains(pending, own[k]) {
				t.Fatalf("%v: thread %d: %v", calls, thread, r.Events)
			}
		}
	}
	if count != len(r.Events) {
		t.Fatalf("%v: %d of %d events belong to threads", calls, count, len(r.Events))
	}
	width := history.Width(r.Events)
	if width > n || len(r.Events) > 0 && width < 1 {
		t.Fatalf("%d threads, %v: the width is %d", n, calls, width)
	}
	return width
}

// byEnd compares the responses of events.
func byEnd(x, y api.Event) int {
	return x.Resp - y.Resp
}

// 26.3: the events of plays of any objects form histories that are no wider than
// there are threads, and some are as wide.
func TestPlays(t *testing.T) {
	number := trial.Numbers(53)
	full := 0
	for range 2000 {
		n := 1 + number(api.MaxThreads)
		specs := trial.SomeSpecs(number, 1+number(4))
		calls := trial.Spoiled(number, trial.CallsOn(number, n, specs, number(10*n)))
		r, e := run.Play(n, specs, calls, trial.Bursts(number, n+1, 20*len(calls)))
		if e != api.OK {
			t.Fatal(e)
		}
		if checkPlay(t, n, calls, r) == n && n > 2 {
			full++
		}
	}
	if full < 100 {
		t.Error("too few plays in which all threads are in progress:", full)
	}
}

// 26.3: whole calls are one after the other.
func TestWholeCalls(t *testing.T) {
	number := trial.Numbers(54)
	for range 300 {
		n := 1 + number(api.MaxThreads)
		specs := trial.SomeSpecs(number, 2)
		calls := trial.CallsOn(number, n, specs, 1+number(30))
		r, _, e := run.Whole(n, specs, calls)
		if e != api.OK {
			t.Fatal(e)
		}
		if width := checkPlay(t, n, calls, r); width != 1 || len(history.Pending(r.Events)) != 0 {
			t.Fatalf("%v: the width is %d: %v", calls, width, r.Events)
		}
		for i := range len(r.Events) - 1 {
			if !history.Ahead(r.Events, i, i+1) || history.Ahead(r.Events, i+1, i) {
				t.Fatalf("%v: %v", calls, r.Events)
			}
		}
	}
}
