package bound_test

import (
	"math"
	"slices"
	"testing"

	"roundelay/api"
	"roundelay/bound"
	"roundelay/table"
)

// kinds is the number of operations of each Kind; universal objects have the type
// 0 or 2 here.
func kinds(s api.Spec) int {
	counts := []int{4, 2, 2, 3, 2, 2, 2, 2, 2, 2}
	if s.Kind == api.Univ && s.P == 2 {
		return 3
	}
	return counts[s.Kind]
}

// 24.1: bounds as plain numbers, for the operation 0, and for each further one.
func TestMost(t *testing.T) {
	for _, x := range []struct {
		n              int
		s              api.Spec
		first, further int
	}{
		{1, api.Spec{Kind: api.Cell, P: 1}, 1, 1},
		{16, api.Spec{Kind: api.Cell, P: 64, Q: -3}, 1, 1},
		{1, api.Spec{Kind: api.Cons}, 2, 1},
		{16, api.Spec{Kind: api.Cons, P: 99, Q: 99}, 2, 1},
		{1, api.Spec{Kind: api.Tally}, 2, 1},
		{2, api.Spec{Kind: api.Tally}, 2, 2},
		{16, api.Spec{Kind: api.Tally, P: 9, Q: 9}, 2, 16},
		{1, api.Spec{Kind: api.Adder}, 1, 1},
		{16, api.Spec{Kind: api.Adder, P: 9, Q: 9}, 1, 1},
		{1, api.Spec{Kind: api.Max, P: 1}, 1, 1},
		{16, api.Spec{Kind: api.Max, P: 12, Q: 9}, 12, 12},
		{1, api.Spec{Kind: api.Snap, P: 1}, 6, 3},
		{2, api.Spec{Kind: api.Snap, P: 1}, 12, 8},
		{5, api.Spec{Kind: api.Snap, P: 64, Q: 9}, 42, 35},
		{16, api.Spec{Kind: api.Snap, P: 2}, 306, 288},
		{1, api.Spec{Kind: api.Multi, P: 1, Q: 1}, 6, 3},
		{1, api.Spec{Kind: api.Multi, P: 16, Q: 1}, 66, 48},
		{3, api.Spec{Kind: api.Multi, P: 4, Q: 64}, 26, 20},
		{16, api.Spec{Kind: api.Multi, P: 16, Q: 2}, 306, 288},
		{1, api.Spec{Kind: api.Univ, P: 0, Q: 1}, 5, 5},
		{16, api.Spec{Kind: api.Univ, P: 2, Q: 256}, 1025, 1025},
		{1, api.Spec{Kind: api.Queue, P: 1, Q: 0}, 318, 318},
		{1, api.Spec{Kind: api.Queue, P: 32, Q: 3}, 391, 391},
		{2, api.Spec{Kind: api.Queue, P: 3, Q: 1}, 756, 756},
		{2, api.Spec{Kind: api.Queue, P: 4, Q: 1}, 757, 757},
		{2, api.Spec{Kind: api.Queue, P: 3, Q: 2}, 770, 770},
		{16, api.Spec{Kind: api.Queue, P: 1, Q: 0}, 132648, 132648},
		{16, api.Spec{Kind: api.Queue, P: 32, Q: 3}, 132721, 132721},
		{1, api.Spec{Kind: api.Pin, P: 1}, 3, 3},
		{4, api.Spec{Kind: api.Pin, P: 3, Q: 9}, 8, 5},
		{16, api.Spec{Kind: api.Pin, P: 8}, 25, 10},
	} {
		for kind := range kinds(x.s) {
			want := x.further
			if kind == 0 {
				want = x.first
			}
			if most, e := bound.Most(x.n, x.s, kind); most != want || e != api.OK {
				t.Errorf("Most(%d, %v, %d): %d, %v; want %d", x.n, x.s, kind, most, e, want)
			}
		}
	}
}

// formula is a bound as the chapter writes it.
type formula func(n, p, q int) int

// formulas are those of the chapter, by Kind: of the operation 0, and of each
// further one.
func formulas() [][2]formula {
	one := func(_, _, _ int) int { return 1 }
	two := func(_, _, _ int) int { return 2 }
	threads := func(n, _, _ int) int { return n }
	bits := func(_, p, _ int) int { return p }
	log := func(_, _, q int) int { return 4*q + 1 }
	queue := func(n, p, q int) int {
		h := 15 * (2*n*n + 8)
		return (n+1)*(h+1) + p + 14*q + n + 14
	}
	return [][2]formula{
		{one, one},
		{two, one},
		{two, threads},
		{one, one},
		{bits, bits},
		{func(n, _, _ int) int { return n*n + 3*n + 2 }, func(n, _, _ int) int { return n*n + 2*n }},
		{func(n, p, _ int) int { return p*(n+3) + 2 }, func(n, p, _ int) int { return p * (n + 2) }},
		{log, log},
		{queue, queue},
		{func(n, p, _ int) int { return n + p + 1 }, func(_, p, _ int) int { return p + 2 }},
	}
}

// all yields all objects whose numbers are in range, and some of arbitrary ones.
func all(yield func(api.Spec) bool) {
	ranges := [10][2][2]int{
		{{1, 64}, {-1, 1}}, {{-1, 1}, {-1, 1}}, {{-1, 1}, {-1, 1}}, {{-1, 1}, {-1, 1}}, {{1, 12}, {-1, 1}},
		{{1, 64}, {-1, 1}}, {{1, 16}, {1, 64}}, {{0, 7}, {1, 256}}, {{1, 32}, {0, 3}}, {{1, 8}, {-1, 1}},
	}
	for kind, r := range ranges {
		for p := r[0][0]; p <= r[0][1]; p++ {
			for q := r[1][0]; q <= r[1][1]; q++ {
				if !yield(api.Spec{Kind: kind, P: p, Q: q}) {
					return
				}
			}
		}
	}
}

// 24.1: the bounds of all operations of all objects, for all threads.
func TestMostEverywhere(t *testing.T) {
	f := formulas()
	for s := range all {
		for n := 1; n <= 16; n++ {
			for kind := range table.Kinds(s) {
				want := f[s.Kind][min(kind, 1)](n, s.P, s.Q)
				if most, e := bound.Most(n, s, kind); most != want || e != api.OK {
					t.Fatalf("Most(%d, %v, %d): %d, %v; want %d", n, s, kind, most, e, want)
				}
			}
		}
	}
}

// 24.1: wrong objects, which precede that there is no such operation, and
// operations that there are not.
func TestMostErrors(t *testing.T) {
	for _, x := range []struct {
		n    int
		s    api.Spec
		kind int
		want api.Errno
	}{
		{0, api.Spec{Kind: api.Cons}, 0, api.ErrArg},
		{17, api.Spec{Kind: api.Max, P: 13}, 2, api.ErrArg},
		{-1, api.Spec{Kind: 10}, -1, api.ErrArg},
		{math.MinInt, api.Spec{Kind: api.Tally}, 1, api.ErrArg},
		{math.MaxInt, api.Spec{Kind: api.Queue, P: 1}, 0, api.ErrArg},
		{1, api.Spec{Kind: 10, P: 1, Q: 1}, 0, api.ErrKind},
		{1, api.Spec{Kind: -1}, 0, api.ErrKind},
		{1, api.Spec{Kind: math.MaxInt}, 0, api.ErrKind},
		{1, api.Spec{Kind: api.Cell}, 0, api.ErrRange},
		{1, api.Spec{Kind: api.Cell}, 4, api.ErrRange},
		{1, api.Spec{Kind: api.Max, P: 13}, -1, api.ErrRange},
		{16, api.Spec{Kind: api.Snap, P: 65}, 9, api.ErrRange},
		{1, api.Spec{Kind: api.Multi, P: 1}, 0, api.ErrRange},
		{1, api.Spec{Kind: api.Univ, P: 8, Q: 1}, 0, api.ErrRange},
		{1, api.Spec{Kind: api.Univ, P: math.MinInt, Q: 1}, 0, api.ErrRange},
		{1, api.Spec{Kind: api.Queue, P: math.MaxInt, Q: 3}, 0, api.ErrRange},
		{1, api.Spec{Kind: api.Queue, P: 1, Q: 4}, 0, api.ErrRange},
		{1, api.Spec{Kind: api.Pin, P: math.MaxInt}, 1, api.ErrRange},
	} {
		if most, e := bound.Most(x.n, x.s, x.kind); most != 0 || e != x.want {
			t.Errorf("Most(%d, %v, %d): %d, %v; want %v", x.n, x.s, x.kind, most, e, x.want)
		}
	}
	for kind := range 10 {
		// 1 and 1 are in range for all Kinds.
		s := api.Spec{Kind: kind, P: 1, Q: 1}
		for _, wrong := range []int{math.MinInt, -1, kinds(s), kinds(s) + 1, 1 << 32, math.MaxInt} {
			if most, e := bound.Most(3, s, wrong); most != 0 || e != api.ErrKind {
				t.Errorf("Most(3, %v, %d): %d, %v", s, wrong, most, e)
			}
		}
	}
	stack := api.Spec{Kind: api.Univ, P: 2, Q: 1}
	if most, e := bound.Most(3, stack, 3); most != 0 || e != api.ErrKind {
		t.Error(most, e)
	}
}

// 24.2: the maximum, wherever it is in the list, and whichever operation has it.
func TestAll(t *testing.T) {
	long := api.Spec{Kind: api.Univ, Q: 3}
	for _, x := range []struct {
		n     int
		specs []api.Spec
		want  int
	}{
		{3, nil, 1},
		{3, []api.Spec{}, 1},
		{3, []api.Spec{{Kind: api.Adder}}, 1},
		{3, []api.Spec{{Kind: api.Cons}}, 2},
		{1, []api.Spec{{Kind: api.Tally}}, 2},
		{3, []api.Spec{{Kind: api.Tally}}, 3},
		{3, []api.Spec{{Kind: api.Max, P: 5}, long}, 13},
		{3, []api.Spec{long, {Kind: api.Max, P: 5}}, 13},
		{3, []api.Spec{{Kind: api.Cell, P: 1}, long, {Kind: api.Pin, P: 8}}, 13},
		{4, []api.Spec{{Kind: api.Cell, P: 1}, long, {Kind: api.Pin, P: 8}}, 13},
		{5, []api.Spec{{Kind: api.Cell, P: 1}, long, {Kind: api.Pin, P: 8}}, 14},
		{2, []api.Spec{{Kind: api.Snap, P: 1}, {Kind: api.Queue, P: 3, Q: 1}, long}, 756},
		// More objects than a play can have, and more words.
		{16, slices.Repeat([]api.Spec{{Kind: api.Snap, P: 64}}, 100), 306},
	} {
		given := slices.Clone(x.specs)
		if most, e := bound.All(x.n, x.specs); most != x.want || e != api.OK {
			t.Errorf("All(%d, %v): %d, %v; want %d", x.n, x.specs, most, e, x.want)
		}
		if !slices.Equal(x.specs, given) {
			t.Errorf("%v became %v", given, x.specs)
		}
	}
}

// 24.2: the first object that is wrong tells the error. Without objects, nothing
// is wrong.
func TestAllErrors(t *testing.T) {
	good := api.Spec{Kind: api.Queue, P: 1}
	ranged := api.Spec{Kind: api.Max}
	kindless := api.Spec{Kind: -1}
	for _, x := range []struct {
		n     int
		specs []api.Spec
		want  api.Errno
	}{
		{3, []api.Spec{ranged, kindless}, api.ErrRange},
		{3, []api.Spec{kindless, ranged}, api.ErrKind},
		{3, []api.Spec{good, good, ranged, good, kindless}, api.ErrRange},
		{3, append(slices.Repeat([]api.Spec{good}, 20), kindless), api.ErrKind},
		{0, []api.Spec{good}, api.ErrArg},
		{17, []api.Spec{kindless}, api.ErrArg},
		{-1, []api.Spec{ranged}, api.ErrArg},
	} {
		if most, e := bound.All(x.n, x.specs); most != 0 || e != x.want {
			t.Errorf("All(%d, %v): %d, %v; want %v", x.n, x.specs, most, e, x.want)
		}
	}
	for _, n := range []int{math.MinInt, 0, 17, math.MaxInt} {
		if most, e := bound.All(n, nil); most != 1 || e != api.OK {
			t.Errorf("All(%d): %d, %v", n, most, e)
		}
	}
}

// 24.3: one more thread makes no bound smaller.
func TestMoreThreads(t *testing.T) {
	for s := range all {
		for kind := range table.Kinds(s) {
			before := 0
			for n := 1; n <= 16; n++ {
				most, e := bound.Most(n, s, kind)
				if e != api.OK || most < before || most < 1 {
					t.Fatalf("Most(%d, %v, %d): %d, %v; before it was %d", n, s, kind, most, e, before)
				}
				before = most
			}
		}
	}
}
