package run

import (
	"slices"
	"testing"

	"roundelay/api"
	"roundelay/loom"
)

// slow is an object without words, whose operations make as many steps as their
// calls say, or, for 0, never respond.
type slow struct{}

// Size returns that there are no words.
func (s slow) Size(int) (int, api.Errno) {
	return 0, api.OK
}

// Place returns the object, wherever it is.
func (s slow) Place(_, _ int) loom.Placed {
	return s
}

// Invoke returns an operation.
func (s slow) Invoke(c api.Call) (loom.Operation, api.Errno) {
	return &slowly{left: c.A}, api.OK
}

// slowly is an operation with so many steps left.
type slowly struct {
	left uint64
}

// Step makes no access.
func (s *slowly) Step(loom.Turn) (api.Answer, bool) {
	s.left--
	return api.Answer{}, s.left == 0
}

// 25.2: just as many picks as a play can have, and one more. No objects of the table
// are known that need so many for as many calls as there can be.
func TestMostPicks(t *testing.T) {
	const most = api.MaxPicks
	for _, x := range []struct {
		steps []uint64
		want  api.Errno
	}{
		{[]uint64{most}, api.OK},
		{[]uint64{most + 1}, api.ErrLong},
		{[]uint64{0}, api.ErrLong},
		{[]uint64{most - 1, 1}, api.OK},
		{[]uint64{1, most - 1}, api.OK},
		{[]uint64{most - 1, 2}, api.ErrLong},
		{[]uint64{most, 1}, api.ErrLong},
		{[]uint64{2, 0, 1}, api.ErrLong},
		{slices.Repeat([]uint64{most / 64}, 64), api.OK},
		{slices.Repeat([]uint64{most / 64}, 65), api.ErrLong},
	} {
		var calls []api.Call
		var want []int
		for i, steps := range x.steps {
			calls = append(calls, api.Call{Thread: i % 3, A: steps})
			if x.want == api.OK {
				want = append(want, slices.Repeat([]int{i % 3}, int(steps))...)
			}
		}
		l, e := loom.New(3, calls, slow{})
		if e != api.OK {
			t.Fatal(e)
		}
		r, picks, e := wholeCalls(l, calls)
		if e != x.want || !slices.Equal(picks, want) || r.Ticks != len(want) || len(r.Events) != 0 != (e == api.OK) {
			t.Errorf("%v steps: %d picks, %d ticks, %d events, %v; want %v", x.steps, len(picks), r.Ticks, len(r.Events), e, x.want)
		}
	}
}
