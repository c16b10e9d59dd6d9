// Package trial has what the tests of plays share; the library does not use it.
package trial

import (
	"iter"
	"slices"

	"roundelay/api"
	"roundelay/keys"
)

// Rows yields all rows of picks of n threads that have this length.
func Rows(n, length int) iter.Seq[[]int] {
	return func(yield func([]int) bool) {
		row := make([]int, length)
		for yield(slices.Clone(row)) {
			i := 0
			for i < length && row[i] == n-1 {
				row[i] = 0
				i++
			}
			if i == length {
				return
			}
			row[i]++
		}
	}
}

// Numbers returns numbers that look like chance, from a rule.
func Numbers(seed uint64) func(below int) int {
	return func(below int) int {
		seed = seed*6364136223846793005 + 1442695040888963407
		return int(seed>>33) % below
	}
}

// WrongPlay is a play that has an error, whatever its object is.
type WrongPlay struct {
	N     int
	Calls []api.Call
	Picks []int
	Want  api.Errno
}

// WrongPlays returns plays that have an error, some of them several.
func WrongPlays() []WrongPlay {
	wrong := []api.Call{{}, {Thread: 2}}
	many := append(slices.Clone(wrong), make([]api.Call, api.MaxCalls-1)...)
	long := make([]int, api.MaxPicks+1)
	return []WrongPlay{
		{N: 0, Want: api.ErrArg},
		{N: -1, Calls: many, Picks: long, Want: api.ErrArg},
		{N: api.MaxThreads + 1, Want: api.ErrArg},
		{N: 1<<63 - 1, Picks: long, Want: api.ErrArg},
		{N: -1 << 63, Want: api.ErrArg},
		{N: 2, Calls: many, Want: api.ErrLong},
		{N: 2, Calls: wrong, Picks: long, Want: api.ErrLong},
		{N: 2, Calls: wrong, Picks: long[1:], Want: api.ErrArg},
		{N: 2, Calls: []api.Call{{Thread: -1}}, Want: api.ErrArg},
	}
}

// InOrder returns the events that have a key, in the order of their keys, and
// whether each of these is at a moment between the first step and the last one.
func InOrder(r api.Report) ([]api.Event, bool) {
	var l []api.Event
	var k [][]int
	for _, x := range r.Events {
		last := x.Resp
		if last == 0 {
			last = r.Ticks
		}
		if len(x.Key) == 0 && x.Resp == 0 {
			continue
		}
		if !keys.Within(x.Key, x.Inv, last) {
			return nil, false
		}
		l = append(l, x)
		k = append(k, x.Key)
	}
	var sorted []api.Event
	for _, i := range keys.Order(k) {
		sorted = append(sorted, l[i])
	}
	return sorted, true
}

// SameReport compares reports, where an empty list is as good as nil.
func SameReport(a, b api.Report) bool {
	return SameEvents(a.Events, b.Events) && slices.Equal(a.Words, b.Words) &&
		a.Counts == b.Counts && a.Ticks == b.Ticks && a.Idle == b.Idle
}

// SameEvents compares events, where an empty list is as good as nil.
func SameEvents(a, b []api.Event) bool {
	return slices.EqualFunc(a, b, sameEvent)
}

// sameEvent compares two events.
func sameEvent(x, y api.Event) bool {
	return x.Call == y.Call && x.Inv == y.Inv && x.Resp == y.Resp && x.Steps == y.Steps &&
		SameAnswer(x.Answer, y.Answer) && slices.Equal(x.Key, y.Key)
}

// SameAnswer compares answers, where an empty list is as good as nil.
func SameAnswer(x, y api.Answer) bool {
	return x.Err == y.Err && x.Val == y.Val && slices.Equal(x.List, y.List)
}
