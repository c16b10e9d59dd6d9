package trial

import (
	"slices"

	"roundelay/api"
	"roundelay/pick"
)

// Access is an access as the chapters describe it: R At, W At X, C At X Y, or
// A At X.
type Access struct {
	Kind rune
	At   int
	X, Y uint64
}

// Made is an access that was made.
type Made struct {
	Access
	Tick   int
	Result uint64
}

// Next tells how a call goes on when its accesses had these results: with the
// next access, or, if it is done, with the answer.
type Next func(c api.Call, results []uint64) (a Access, answer api.Answer, done bool)

// Straight returns a Next from a program that makes its accesses one after the
// other, by a function that returns their results. The program is executed anew
// each time; an access whose result is not known yet has the result 0, and what
// the program does from there on is ignored, but it must end.
func Straight(program func(c api.Call, access func(Access) uint64) api.Answer) Next {
	return func(c api.Call, results []uint64) (Access, api.Answer, bool) {
		made := 0
		var unknown Access // the first one whose result is not known
		answer := program(c, func(a Access) uint64 {
			made++
			if made <= len(results) {
				return results[made-1]
			}
			if made == len(results)+1 {
				unknown = a
			}
			return 0
		})
		if made > len(results) {
			return unknown, api.Answer{}, false
		}
		return Access{}, answer, true
	}
}

// Walk is a play that was made access by access.
type Walk struct {
	Report api.Report // its events have no keys
	Made   [][]Made   // for each event
}

// Play makes the accesses of calls on an object of this size whose words are 0,
// and returns nothing if there is no such play.
func Play(n, size int, calls []api.Call, picks []int, next Next) (Walk, bool) {
	return PlayFrom(n, make([]uint64, size), calls, picks, next)
}

// PlayFrom makes the accesses of calls on an object that has these words, and
// returns nothing if there is no such play.
func PlayFrom(n int, words []uint64, calls []api.Call, picks []int, next Next) (Walk, bool) {
	line, e := pick.New(n, calls)
	if e != api.OK {
		return Walk{}, false
	}
	w := Walk{Report: api.Report{Words: slices.Clone(words)}}
	current := map[int]int{}
	for _, p := range picks {
		call, ok := line.Now(p)
		if !ok {
			w.Report.Idle++
			continue
		}
		w.Report.Ticks++
		event, begun := current[p]
		if !begun {
			event = w.begin(call)
			current[p] = event
		}
		if w.step(event, calls[call], next) {
			line.Finish(p)
			delete(current, p)
		}
	}
	return w, true
}

// begin appends an event of a call.
func (w *Walk) begin(call int) int {
	w.Report.Events = append(w.Report.Events, api.Event{Call: call, Inv: w.Report.Ticks})
	w.Made = append(w.Made, nil)
	return len(w.Made) - 1
}

// step makes the next step of an event, and tells whether it has responded.
func (w *Walk) step(event int, c api.Call, next Next) bool {
	x := &w.Report.Events[event]
	x.Steps++
	a, answer, done := next(c, Results(w.Made[event]))
	if !done {
		made := Made{Access: a, Tick: w.Report.Ticks, Result: w.access(a)}
		w.Made[event] = append(w.Made[event], made)
		_, answer, done = next(c, Results(w.Made[event]))
	}
	if done {
		x.Resp = w.Report.Ticks
		x.Answer = answer
	}
	return done
}

// access makes an access, and returns its result.
func (w *Walk) access(a Access) uint64 {
	counts := &w.Report.Counts
	word := &w.Report.Words[a.At]
	was := *word
	switch a.Kind {
	case 'R':
		counts.Read++
	case 'W':
		counts.Write++
		*word, was = a.X, 0
	case 'C':
		counts.Swap++
		if was != a.X {
			return 0
		}
		*word, was = a.Y, 1
	case 'A':
		counts.Add++
		*word += a.X
	}
	return was
}

// Results returns the results of accesses.
func Results(l []Made) []uint64 {
	var results []uint64
	for _, m := range l {
		results = append(results, m.Result)
	}
	return results
}
