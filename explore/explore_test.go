package explore_test

import (
	"math"
	"slices"
	"testing"

	"roundelay/api"
	"roundelay/explore"
	"roundelay/trial"
)

// 35.1: rows as plain numbers.
func TestNth(t *testing.T) {
	for _, x := range []struct {
		n, length, i int
		want         []int
	}{
		{2, 4, 0, []int{0, 0, 0, 0}},
		{2, 4, 1, []int{0, 0, 0, 1}},
		{2, 4, 11, []int{1, 0, 1, 1}},
		{2, 4, 15, []int{1, 1, 1, 1}},
		{3, 3, 5, []int{0, 1, 2}},
		{3, 3, 26, []int{2, 2, 2}},
		{10, 5, 30758, []int{3, 0, 7, 5, 8}},
		{1, 1, 0, []int{0}},
		{1, 12, 0, make([]int, 12)},
		{16, 1, 15, []int{15}},
		{16, 4, 0x1f0a, []int{1, 15, 0, 10}},
		{16, 12, 0x123456789abc, []int{1, 2, 3, 4, 5, 6, 7, 8, 9, 10, 11, 12}},
		{16, 12, 1<<48 - 1, slices.Repeat([]int{15}, 12)},
		{2, 12, 1 << 11, []int{1, 0, 0, 0, 0, 0, 0, 0, 0, 0, 0, 0}},
	} {
		if row := explore.Nth(x.n, x.length, x.i); !slices.Equal(row, x.want) {
			t.Errorf("Nth(%d, %d, %d): %v; want %v", x.n, x.length, x.i, row, x.want)
		}
	}
}

// 35.1: a wrong number of threads, a wrong length, and rows that there are not.
func TestNoRow(t *testing.T) {
	for _, x := range []struct {
		n, length, i int
	}{
		{0, 4, 0}, {-1, 4, 0}, {17, 4, 0}, {math.MinInt, 4, 0}, {math.MaxInt, 4, 0}, {0, 0, 0}, {17, 1, 3},
		{2, -1, 0}, {2, 13, 0}, {1, 13, 0}, {16, 13, 5}, {2, math.MinInt, 0}, {2, math.MaxInt, 0},
		{2, 4, -1}, {2, 4, 16}, {2, 4, 17}, {2, 4, math.MaxInt}, {2, 4, math.MinInt}, {3, 3, 27}, {1, 3, 1}, {1, 12, math.MaxInt},
		{1, 1, 1}, {16, 12, 1 << 48}, {16, 12, math.MaxInt}, {16, 12, -1}, {2, 0, 0}, {2, 0, 1}, {2, 0, -1}, {2, 12, 1 << 12},
	} {
		if row := explore.Nth(x.n, x.length, x.i); len(row) != 0 {
			t.Errorf("Nth(%d, %d, %d): %v; want nothing", x.n, x.length, x.i, row)
		}
	}
}

// 35.1: all rows of a length, each of which follows the one before it, as a number
// with these digits does; there are no others.
func TestAllRows(t *testing.T) {
	for n := 1; n <= api.MaxThreads; n++ {
		for length := 1; length <= 12; length++ {
			want := make([]int, length)
			i := 0
			for ; i < 5000; i++ {
				if row := explore.Nth(n, length, i); !slices.Equal(row, want) {
					t.Fatalf("Nth(%d, %d, %d): %v; want %v", n, length, i, row, want)
				}
				if !next(n, want) {
					break
				}
			}
			if row := explore.Nth(n, length, i+1); i < 5000 && len(row) != 0 {
				t.Fatalf("Nth(%d, %d, %d): %v behind the last row", n, length, i+1, row)
			}
		}
	}
}

// next makes the row that follows a row, and tells whether there is one.
func next(n int, row []int) bool {
	at := len(row) - 1
	for at >= 0 && row[at] == n-1 {
		row[at] = 0
		at--
	}
	if at < 0 {
		return false
	}
	row[at]++
	return true
}

// R4: a row is new memory each time.
func TestNthAlone(t *testing.T) {
	first := explore.Nth(2, 3, 5)
	clear(first)
	if second := explore.Nth(2, 3, 5); !slices.Equal(second, []int{1, 0, 1}) {
		t.Error(second)
	}
}

// all returns what All returns, which must have no error.
func all(t *testing.T, n int, specs []api.Spec, calls []api.Call, length int) explore.Found {
	t.Helper()
	f, e := explore.All(n, specs, calls, length)
	if e != api.OK {
		t.Fatalf("All(%d, %v, %v, %d): %v", n, specs, calls, length, e)
	}
	return f
}

// 35.2: what is found, as plain numbers.
func TestAll(t *testing.T) {
	cons := []api.Spec{{Kind: api.Cons}}
	adder := []api.Spec{{Kind: api.Adder}}
	propose := []api.Call{{Thread: 0, A: 5}, {Thread: 1, A: 6}}
	agree := []api.Call{{Thread: 0, A: 5}, {Thread: 1, A: 5}}
	for i, x := range []struct {
		n      int
		specs  []api.Spec
		calls  []api.Call
		length int
		want   explore.Found
	}{
		// One, or both, respond with 5 or 6.
		{2, cons, propose, 4, explore.Found{Plays: 16, Done: 6, Most: 2, Kinds: 6}},
		{2, cons, agree, 4, explore.Found{Plays: 16, Done: 6, Most: 2, Kinds: 3}},
		// Nobody responds, or one of them does, only if it is alone.
		{2, cons, propose, 2, explore.Found{Plays: 4, Most: 2, Kinds: 3}},
		{2, cons, propose, 1, explore.Found{Plays: 2, Most: 1, Kinds: 1}},
		{2, cons, propose, 0, explore.Found{Plays: 1, Kinds: 1}},
		// A third thread has nothing to do.
		{3, cons, propose, 4, explore.Found{Plays: 81, Done: 6, Most: 2, Kinds: 7}},
		{1, cons, propose[:1], 12, explore.Found{Plays: 1, Done: 1, Most: 2, Kinds: 1}},
		// Without calls nothing is invoked, and all of them have responded.
		{1, nil, nil, 0, explore.Found{Plays: 1, Done: 1, Kinds: 1}},
		{16, nil, nil, 3, explore.Found{Plays: 4096, Done: 4096, Kinds: 1}},
		{2, adder, nil, 12, explore.Found{Plays: 4096, Done: 4096, Kinds: 1}},
		// There is no such object, or no such operation.
		{2, nil, propose, 2, explore.Found{Plays: 4, Done: 2, Most: 1, Kinds: 3}},
		{2, adder, []api.Call{{Obj: 1}, {Thread: 1, Kind: 9}}, 3, explore.Found{Plays: 8, Done: 6, Most: 1, Kinds: 3}},
		// Each row of adds has its own answers, but an idle pick may precede the last add
		// or follow it.
		{2, adder, []api.Call{{A: 1}, {A: 1}, {Thread: 1, A: 8}, {Thread: 1, A: 8}}, 4, explore.Found{Plays: 16, Done: 6, Most: 1, Kinds: 14}},
		// An answer 0 is not the same as none, nor is it if another call has it.
		{2, adder, []api.Call{{}}, 1, explore.Found{Plays: 2, Done: 1, Most: 1, Kinds: 2}},
		{2, adder, []api.Call{{}, {Thread: 1}}, 1, explore.Found{Plays: 2, Most: 1, Kinds: 2}},
		// A read returns ErrEmpty or 0, which differ in the error alone.
		{2, cons, []api.Call{{}, {Thread: 1, Kind: 1}}, 3, explore.Found{Plays: 8, Done: 3, Most: 2, Kinds: 5}},
		// A read returns what was written, or not, which differ in the list alone.
		{2, []api.Spec{{Kind: api.Pin, P: 1}}, []api.Call{{A: 7}, {Thread: 1, Kind: 1}}, 6, explore.Found{Plays: 64, Done: 20, Most: 3, Kinds: 4}},
	} {
		if f := all(t, x.n, x.specs, x.calls, x.length); f != x.want {
			t.Errorf("%d: %v; want %v", i, f, x.want)
		}
	}
}

// 35.2: as many rows as there may be, and more; the length precedes their number.
func TestAllErrors(t *testing.T) {
	one := []api.Spec{{Kind: api.Adder}}
	for _, x := range []struct {
		n, length int
		want      api.Errno
	}{
		{2, -1, api.ErrArg}, {2, 13, api.ErrArg}, {2, math.MinInt, api.ErrArg}, {2, math.MaxInt, api.ErrArg},
		{1, -1, api.ErrArg}, {1, 13, api.ErrArg}, {16, -1, api.ErrArg}, {16, 13, api.ErrArg},
		{1, 12, api.OK}, {2, 12, api.OK}, {3, 7, api.OK}, {4, 6, api.OK}, {5, 5, api.OK}, {8, 4, api.OK}, {15, 3, api.OK}, {16, 3, api.OK}, {16, 0, api.OK},
		{3, 8, api.ErrLong}, {3, 12, api.ErrLong}, {4, 7, api.ErrLong}, {5, 6, api.ErrLong}, {8, 5, api.ErrLong}, {9, 4, api.ErrLong}, {16, 4, api.ErrLong}, {16, 12, api.ErrLong},
	} {
		f, e := explore.All(x.n, one, []api.Call{{A: 1}}, x.length)
		if e != x.want || e != api.OK && f != (explore.Found{}) {
			t.Errorf("%d threads, length %d: %v, %v; want %v", x.n, x.length, f, e, x.want)
		}
	}
}

// 35.2: the errors of a play precede those of the length.
func TestPlayErrors(t *testing.T) {
	lengths := []int{-1, 0, 3, 12, 13, math.MaxInt}
	for _, x := range trial.WrongPlays() {
		if len(x.Picks) != 0 {
			continue // All has no picks
		}
		for _, length := range lengths {
			if f, e := explore.All(x.N, []api.Spec{{Kind: 99}}, x.Calls, length); e != x.Want || f != (explore.Found{}) {
				t.Errorf("%d threads, %d calls, length %d: %v, %v; want %v", x.N, len(x.Calls), length, f, e, x.Want)
			}
		}
	}
	for _, x := range []struct {
		specs []api.Spec
		want  api.Errno
	}{
		{[]api.Spec{{Kind: -1}}, api.ErrKind},
		{[]api.Spec{{Kind: 10}}, api.ErrKind},
		{[]api.Spec{{Kind: api.Cons}, {Kind: api.Max, P: 13}}, api.ErrRange},
		{[]api.Spec{{Kind: api.Queue, P: -1}}, api.ErrRange},
		{make([]api.Spec, api.MaxObjs+1), api.ErrLong},
		{slices.Repeat([]api.Spec{{Kind: api.Multi, P: 16, Q: 64}}, api.MaxObjs), api.ErrLong},
	} {
		for _, length := range lengths {
			if f, e := explore.All(16, x.specs, []api.Call{{}}, length); e != x.want || f != (explore.Found{}) {
				t.Errorf("%v, length %d: %v, %v; want %v", x.specs, length, f, e, x.want)
			}
		}
	}
}
