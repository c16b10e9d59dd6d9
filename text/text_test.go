package text_test

import (
	"fmt"
	"math"
	"slices"
	"strings"
	"testing"

	"roundelay/api"
	"roundelay/run"
	"roundelay/text"
	"roundelay/trial"
)

// line is the line of an event, as the chapter says.
func line(e api.Event) string {
	return fmt.Sprintf("%d %d %d %d %d %d %d %d", e.Call, e.Inv, e.Resp, e.Steps, int(e.Answer.Err), e.Answer.Val, e.Answer.List, e.Key)
}

// someInt makes a number, often one at the end of a range, or one with few digits.
func someInt(number func(below int) int) int {
	special := []int{0, 1, -1, 9, 10, -10, 99, 100, -1000, math.MaxInt, math.MinInt, math.MaxInt - 1, math.MinInt + 1, math.MaxInt32, math.MinInt32}
	if i := number(2 * len(special)); i < len(special) {
		return special[i]
	}
	x := number(1<<31)<<32 + number(1<<31)<<1
	return (x >> number(64)) * (1 - 2*number(2))
}

// someWord makes a word, often one at the end of the range, or one with few digits.
func someWord(number func(below int) int) uint64 {
	special := []uint64{0, 1, 9, 10, 100, math.MaxUint64, math.MaxUint64 - 1, 1 << 63, 1<<63 - 1, 10000000000000000000, 9999999999999999999}
	if i := number(2 * len(special)); i < len(special) {
		return special[i]
	}
	return uint64(someInt(number))
}

// someEvent makes an event of any numbers.
func someEvent(number func(below int) int) api.Event {
	x := api.Event{
		Call:   someInt(number),
		Inv:    someInt(number),
		Resp:   someInt(number),
		Steps:  someInt(number),
		Answer: api.Answer{Err: api.Errno(someInt(number)), Val: someWord(number)},
	}
	for range number(4) {
		x.Answer.List = append(x.Answer.List, someWord(number))
	}
	for range number(4) {
		x.Key = append(x.Key, someInt(number))
	}
	return x
}

// same compares two events.
func same(x, y api.Event) bool {
	return trial.SameEvents([]api.Event{x}, []api.Event{y})
}

// 33.1: the example of the chapter, empty lists, and numbers at the ends of their ranges.
func TestEvent(t *testing.T) {
	const least, greatest = math.MinInt, math.MaxInt
	for _, x := range []struct {
		e    api.Event
		want string
	}{
		{api.Event{Call: 3, Inv: 1, Resp: 4, Steps: 2, Answer: api.Answer{Val: 5}, Key: []int{8, 2}}, "3 1 4 2 0 5 [] [8 2]"},
		{api.Event{}, "0 0 0 0 0 0 [] []"},
		{api.Event{Answer: api.Answer{List: []uint64{}}, Key: []int{}}, "0 0 0 0 0 0 [] []"},
		{api.Event{Answer: api.Answer{List: []uint64{0}}, Key: []int{0}}, "0 0 0 0 0 0 [0] [0]"},
		{api.Event{Answer: api.Answer{Err: api.ErrObj, List: []uint64{7, 0, 10, 7}}, Key: []int{-1, 0, -10}}, "0 0 0 0 12 0 [7 0 10 7] [-1 0 -10]"},
		{api.Event{Call: least, Inv: least, Resp: least, Steps: least, Answer: api.Answer{Err: least}, Key: []int{least, least}}, "-9223372036854775808 -9223372036854775808 -9223372036854775808 -9223372036854775808 -9223372036854775808 0 [] [-9223372036854775808 -9223372036854775808]"},
		{api.Event{Call: greatest, Inv: greatest, Resp: greatest, Steps: greatest, Answer: api.Answer{Err: greatest}, Key: []int{greatest}}, "9223372036854775807 9223372036854775807 9223372036854775807 9223372036854775807 9223372036854775807 0 [] [9223372036854775807]"},
		{api.Event{Answer: api.Answer{Val: math.MaxUint64, List: []uint64{math.MaxUint64, 1 << 63}}}, "0 0 0 0 0 18446744073709551615 [18446744073709551615 9223372036854775808] []"},
		{api.Event{Call: 10, Inv: 100, Resp: -1, Steps: -20, Answer: api.Answer{Err: -3, Val: 1000}}, "10 100 -1 -20 -3 1000 [] []"},
	} {
		if s := text.Event(x.e); s != x.want || line(x.e) != x.want {
			t.Errorf("%q; want %q", s, x.want)
		}
	}
}

// 33.1: the six numbers of a call, at the ends of their ranges.
func TestCall(t *testing.T) {
	for _, x := range []struct {
		c    api.Call
		want string
	}{
		{api.Call{}, "0 0 0 0 0 0"},
		{api.Call{Thread: 1, Obj: 2, Kind: 3, A: 4, B: 5, C: 6}, "1 2 3 4 5 6"},
		{api.Call{Thread: -1, Obj: -20, Kind: -300, A: 10, B: 100, C: 1000}, "-1 -20 -300 10 100 1000"},
		{api.Call{Thread: math.MinInt, Obj: math.MaxInt, Kind: math.MinInt, A: math.MaxUint64, B: 1 << 63, C: math.MaxUint64}, "-9223372036854775808 9223372036854775807 -9223372036854775808 18446744073709551615 9223372036854775808 18446744073709551615"},
	} {
		if s := text.Call(x.c); s != x.want {
			t.Errorf("%q; want %q", s, x.want)
		}
	}
}

// 33.1, 33.2, 33.4: events of any numbers have their lines, from which they are read.
func TestEventsAndLines(t *testing.T) {
	number := trial.Numbers(101)
	for range 50000 {
		e := someEvent(number)
		s := text.Event(e)
		if s != line(e) {
			t.Fatalf("%v: %q", e, s)
		}
		x, at, ok := text.Read(s)
		if !ok || at != 0 || !same(x, e) || text.Event(x) != s {
			t.Fatalf("%q: %v, %d, %v", s, x, at, ok)
		}
		c := api.Call{Thread: e.Call, Obj: e.Inv, Kind: e.Resp, A: someWord(number), B: e.Answer.Val, C: someWord(number)}
		if s, want := text.Call(c), fmt.Sprint(c.Thread, c.Obj, c.Kind, c.A, c.B, c.C); s != want {
			t.Fatalf("%v: %q", c, s)
		}
	}
}

// 33.4: events have the same line only if they are equal.
func TestDifferentEvents(t *testing.T) {
	number := trial.Numbers(102)
	seen := map[string]api.Event{}
	again := 0
	for range 100000 {
		e := api.Event{Call: number(12), Inv: 1, Answer: api.Answer{Val: uint64(number(3))}}
		for range number(3) {
			e.Answer.List = append(e.Answer.List, uint64(number(12)))
		}
		for range number(3) {
			e.Key = append(e.Key, number(23)-11)
		}
		s := text.Event(e)
		if x, ok := seen[s]; ok && !same(x, e) {
			t.Fatalf("%q is the line of %v and %v", s, x, e)
		} else if ok {
			again++
		}
		seen[s] = e
	}
	if again < 10000 || len(seen) < 10000 {
		t.Error("too few lines:", again, len(seen))
	}
}

// 33.3: no events, calls that do not exist, and numbers at the ends of their ranges.
func TestReport(t *testing.T) {
	calls := []api.Call{{Thread: 1, Obj: 2, Kind: 3, A: 4, B: 5, C: 6}, {Thread: -1}}
	const ends = "ticks 0 idle 0\nreads 0 writes 0 swaps 0 adds 0 faults 0\n"
	for _, x := range []struct {
		r    api.Report
		want string
	}{
		{api.Report{}, ends},
		{api.Report{Events: []api.Event{}, Words: []uint64{7, 8}}, ends},
		{api.Report{Events: []api.Event{{}}}, "1 2 3 4 5 6: 0 0 0 0 0 0 [] []\n" + ends},
		{api.Report{Events: []api.Event{{Call: 1}, {}}}, "-1 0 0 0 0 0: 1 0 0 0 0 0 [] []\n1 2 3 4 5 6: 0 0 0 0 0 0 [] []\n" + ends},
		{api.Report{Events: []api.Event{{Call: 2}}}, ": 2 0 0 0 0 0 [] []\n" + ends},
		{api.Report{Events: []api.Event{{Call: -1, Key: []int{3}}}}, ": -1 0 0 0 0 0 [] [3]\n" + ends},
		{api.Report{Events: []api.Event{{Call: math.MaxInt}, {Call: math.MinInt}}}, ": 9223372036854775807 0 0 0 0 0 [] []\n: -9223372036854775808 0 0 0 0 0 [] []\n" + ends},
		{
			api.Report{Ticks: 1, Idle: 2, Counts: api.Counts{Read: 3, Write: 4, Swap: 5, Add: 6, Fault: 7}},
			"ticks 1 idle 2\nreads 3 writes 4 swaps 5 adds 6 faults 7\n",
		},
		{
			api.Report{Ticks: math.MinInt, Idle: math.MaxInt, Counts: api.Counts{Read: -10, Fault: math.MinInt}},
			"ticks -9223372036854775808 idle 9223372036854775807\nreads -10 writes 0 swaps 0 adds 0 faults -9223372036854775808\n",
		},
	} {
		if s := text.Report(calls, x.r); s != x.want {
			t.Errorf("%v: %q; want %q", x.r, s, x.want)
		}
	}
	if s := text.Report(nil, api.Report{Events: []api.Event{{}}}); s != ": 0 0 0 0 0 0 [] []\n"+ends {
		t.Errorf("no calls: %q", s)
	}
}

// 33.3, 33.4: the reports of plays, whose lines tell calls and events.
func TestReportOfPlays(t *testing.T) {
	number := trial.Numbers(103)
	lines := 0
	for range 500 {
		n := 1 + number(4)
		specs := trial.SomeSpecs(number, 1+number(4))
		calls := trial.Spoiled(number, trial.CallsOn(number, n, specs, 4*n))
		r, e := run.Play(n, specs, calls, trial.Bursts(number, n+1, 60*n))
		if e != api.OK {
			t.Fatal(e)
		}
		l := strings.SplitAfter(text.Report(calls, r), "\n")
		if len(l) != len(r.Events)+3 || l[len(l)-1] != "" {
			t.Fatalf("%d lines of %d events", len(l), len(r.Events))
		}
		for i, x := range r.Events {
			call, event, ok := strings.Cut(strings.TrimSuffix(l[i], "\n"), ": ")
			read, at, right := text.Read(event)
			if !ok || call != text.Call(calls[x.Call]) || !right || at != 0 || !same(read, x) {
				t.Fatalf("%q: %v, %d, %v", l[i], read, at, right)
			}
			lines++
		}
		c := r.Counts
		if s := fmt.Sprintln("ticks", r.Ticks, "idle", r.Idle); l[len(r.Events)] != s {
			t.Fatalf("%q; want %q", l[len(r.Events)], s)
		}
		if s := fmt.Sprintln("reads", c.Read, "writes", c.Write, "swaps", c.Swap, "adds", c.Add, "faults", c.Fault); l[len(r.Events)+1] != s {
			t.Fatalf("%q; want %q", l[len(r.Events)+1], s)
		}
	}
	if lines < 2000 {
		t.Error("too few events:", lines)
	}
}

// 33.1 to 33.3: long lists, and many events.
func TestLong(t *testing.T) {
	e := api.Event{Answer: api.Answer{List: make([]uint64, 300000)}, Key: make([]int, 300000)}
	for i := range e.Key {
		e.Answer.List[i], e.Key[i] = uint64(i)<<40, -i
	}
	s := text.Event(e)
	if x, at, ok := text.Read(s); s != line(e) || !ok || at != 0 || !same(x, e) {
		t.Error("a long line")
	}
	if _, at, ok := text.Read(s[:len(s)-1] + ","); ok || at != len(s)-1 {
		t.Error(at, ok)
	}
	if s := text.Report(nil, api.Report{Events: make([]api.Event, 300000)}); strings.Count(s, "\n") != 300002 {
		t.Error("a long report")
	}
}

// R4: arguments remain what they are, with their spare capacity, and no two lists
// share memory.
func TestMemory(t *testing.T) {
	words := append(make([]uint64, 0, 3), 5, 6)
	key := append(make([]int, 0, 3), 8, 2)
	events := append(make([]api.Event, 0, 2), api.Event{Answer: api.Answer{List: words}, Key: key})
	calls := append(make([]api.Call, 0, 2), api.Call{A: 7})
	for range 2 {
		if s := text.Report(calls, api.Report{Events: events}); !strings.HasPrefix(s, "0 0 0 7 0 0: 0 0 0 0 0 0 [5 6] [8 2]\n") {
			t.Errorf("%q", s)
		}
		text.Event(events[0])
		text.Call(calls[0])
	}
	if !slices.Equal(words[:3], []uint64{5, 6, 0}) || !slices.Equal(key[:3], []int{8, 2, 0}) || calls[0].A != 7 || calls[:2][1] != (api.Call{}) || !same(events[:2][1], api.Event{}) {
		t.Error(words, key, calls, events)
	}
	s := text.Event(events[0])
	first, _, _ := text.Read(s)
	second, _, _ := text.Read(s)
	clear(first.Answer.List[:cap(first.Answer.List)])
	clear(first.Key[:cap(first.Key)])
	if !same(second, events[0]) {
		t.Error(second)
	}
}
