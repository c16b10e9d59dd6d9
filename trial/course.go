package trial

import (
	"roundelay/api"
	"roundelay/loom"
)

// Course makes picks with which threads execute whole calls, or steps of them.
type Course struct {
	Picks []int
	calls []api.Call
	loom  *loom.Loom
}

// NewCourse returns a course without picks, or nothing if there is no such play.
func NewCourse(n int, calls []api.Call, objects ...loom.Object) (*Course, bool) {
	l, e := loom.New(n, calls, objects...)
	if e != api.OK {
		return nil, false
	}
	return &Course{calls: calls, loom: l}, true
}

// Step picks a thread so many times.
func (c *Course) Step(thread, times int) {
	for range times {
		c.loom.Pick(thread)
		c.Picks = append(c.Picks, thread)
	}
}

// Finish picks a thread until one more of its calls has responded, and tells
// whether one has: if it has nothing to do, it is not picked.
func (c *Course) Finish(thread int) bool {
	before := c.loom.Report()
	for {
		c.loom.Pick(thread)
		after := c.loom.Report()
		if after.Idle > before.Idle {
			return false
		}
		c.Picks = append(c.Picks, thread)
		if c.responses(after, thread) > c.responses(before, thread) {
			return true
		}
	}
}

// responses returns how many calls of a thread have responded.
func (c *Course) responses(r api.Report, thread int) int {
	count := 0
	for _, x := range r.Events {
		if x.Resp != 0 && c.calls[x.Call].Thread == thread {
			count++
		}
	}
	return count
}
