package keys_test

import (
	"math"
	"slices"
	"testing"

	"roundelay/keys"
)

// ascending are different keys, each of which precedes the next one.
func ascending() [][]int {
	return [][]int{
		nil,
		{math.MinInt},
		{math.MinInt, math.MinInt},
		{math.MinInt, math.MaxInt},
		{math.MinInt + 1},
		{-2, 5},
		{-1},
		{-1, 0},
		{0},
		{0, math.MinInt},
		{0, -1},
		{0, 0},
		{0, 0, 0},
		{0, 1},
		{1},
		{3, 9, 9, 9},
		{4},
		{4, 0},
		{4, 0, 7},
		{4, 1},
		{5},
		{5, 4},
		{10},
		{40},
		{math.MaxInt - 1, math.MaxInt},
		{math.MaxInt},
		{math.MaxInt, math.MinInt},
		{math.MaxInt, math.MaxInt},
	}
}

// 4.1, 4.3: of two different keys exactly one precedes the other, and by all of them there is one order.
func TestCompare(t *testing.T) {
	l, other := ascending(), ascending()
	for i, a := range l {
		for j, b := range other {
			want := 0
			switch {
			case i < j:
				want = -1
			case i > j:
				want = 1
			}
			if n := keys.Compare(a, b); n != want {
				t.Errorf("Compare(%v, %v): %d; want %d", a, b, n, want)
			}
		}
	}
	if keys.Compare(nil, []int{}) != 0 || keys.Compare([]int{}, nil) != 0 {
		t.Error("a list without elements may be nil")
	}
}

// small returns every key of up to three numbers from -1 to 1.
func small() [][]int {
	l := [][]int{{}}
	for from, size := 0, 0; size < 3; size++ {
		to := len(l)
		for _, k := range l[from:to] {
			for n := -1; n <= 1; n++ {
				l = append(l, append(slices.Clone(k), n))
			}
		}
		from = to
	}
	return l
}

// precedes tells by the words of the chapter whether a precedes b.
func precedes(a, b []int) bool {
	for i := range min(len(a), len(b)) {
		if a[i] != b[i] {
			return a[i] < b[i]
		}
	}
	return len(a) < len(b)
}

// 4.1, 4.3
func TestCompareOfAllSmallKeys(t *testing.T) {
	l := small()
	if len(l) != 1+3+9+27 {
		t.Fatal(len(l))
	}
	for _, a := range l {
		for _, b := range l {
			n := keys.Compare(a, b)
			if (n == -1) != precedes(a, b) || (n == 1) != precedes(b, a) || (n == 0) != slices.Equal(a, b) {
				t.Errorf("Compare(%v, %v): %d", a, b, n)
			}
			if keys.Compare(b, a) != -n {
				t.Errorf("Compare(%v, %v): not %d the other way round", a, b, -n)
			}
			if n != -1 {
				continue
			}
			for _, c := range l {
				if keys.Compare(b, c) == -1 && keys.Compare(a, c) != -1 {
					t.Errorf("%v, %v, %v: not transitive", a, b, c)
				}
			}
		}
	}
}

// 4.1
func TestOrder(t *testing.T) {
	for i, c := range []struct {
		l    [][]int
		want []int
	}{
		{nil, nil},
		{[][]int{}, nil},
		{[][]int{{7}}, []int{0}},
		{[][]int{nil}, []int{0}},
		{[][]int{{1}, {2}}, []int{0, 1}},
		{[][]int{{2}, {1}}, []int{1, 0}},
		{[][]int{{5}, {4, 0}, {4}}, []int{2, 1, 0}},
		{[][]int{{4}, {5}, {4, 0}}, []int{0, 2, 1}},
		{[][]int{{3}, {3}, {3}}, []int{0, 1, 2}},
		{[][]int{{3}, nil, {3}, {}, {2}}, []int{1, 3, 4, 0, 2}},
		{[][]int{{10}, {9}, {-1}, {9}}, []int{2, 1, 3, 0}},
		{[][]int{{math.MaxInt}, {math.MinInt}, {0}}, []int{1, 2, 0}},
	} {
		if got := keys.Order(c.l); !slices.Equal(got, c.want) {
			t.Errorf("%d: Order(%v): %v; want %v", i, c.l, got, c.want)
		}
	}
}

// 4.1: among equal keys the smaller index comes first, however many there are.
func TestOrderOfManyKeys(t *testing.T) {
	for _, different := range []int{1, 2, 7, 1000} {
		l := make([][]int, 3000)
		state := uint64(1)
		for i := range l {
			state = state*6364136223846793005 + 1442695040888963407 // a fixed row of numbers
			n := int(state>>33) % different
			l[i] = []int{n / 5, n % 5}
			if n%5 == 0 {
				l[i] = l[i][:1]
			}
		}
		o := keys.Order(l)
		if len(o) != len(l) {
			t.Fatal(len(o))
		}
		for at := 1; at < len(o); at++ {
			i, j := o[at-1], o[at]
			if !precedes(l[i], l[j]) && !(slices.Equal(l[i], l[j]) && i < j) {
				t.Fatalf("%d: the index %d with %v is ahead of %d with %v", different, i, l[i], j, l[j])
			}
		}
		slices.Sort(o)
		for i, got := range o {
			if got != i {
				t.Fatalf("%d: no index %d", different, i)
			}
		}
	}
}

// 4.1: the keys in reverse order are brought into order.
func TestOrderOfReversedKeys(t *testing.T) {
	l := ascending()
	slices.Reverse(l)
	for at, i := range keys.Order(l) {
		if i != len(l)-1-at {
			t.Errorf("%d: %d", at, i)
		}
	}
}

// 4.2
func TestWithin(t *testing.T) {
	const most, least = math.MaxInt, math.MinInt
	for i, c := range []struct {
		k         []int
		inv, resp int
		want      bool
	}{
		{[]int{7}, 3, 4, true}, // the chapter's examples
		{[]int{7}, 4, 4, false},
		{[]int{7}, 3, 3, false},
		{[]int{7}, 3, 0, true},
		{[]int{7}, 4, 0, false},
		{[]int{6}, 3, 3, true},
		{[]int{6}, 4, 4, false},
		{[]int{6}, 2, 2, false},
		{[]int{6}, 1, 9, true},
		{[]int{6}, 3, 2, false},
		{[]int{6, -9}, 3, 3, true}, // only the first number counts
		{[]int{7, 0, 0}, 3, 4, true},
		{[]int{6, 99}, 3, 3, true},
		{[]int{8, 3}, 3, 3, false},
		{nil, 0, 0, false},
		{[]int{}, 0, 0, false},
		{nil, least, most, false},
		{[]int{-1}, least, most, false},
		{[]int{-1}, least, 0, false},
		{[]int{-2}, -1, 0, false},
		{[]int{-2, 6}, -1, 9, false},
		{[]int{least}, least, 0, false},
		{[]int{0}, 0, 0, true},
		{[]int{0}, 0, 1, true},
		{[]int{0}, 1, 1, false},
		{[]int{0}, -1, 1, true},
		{[]int{0}, least, most, true},
		{[]int{0}, 0, -1, false}, // only 0 stands for no response
		{[]int{0}, least, least, false},
		{[]int{1}, 0, 1, true},
		{[]int{1}, 0, 0, true},
		{[]int{1}, 1, 1, false},
		{[]int{1}, 0, -1, false},
		{[]int{2}, 1, 1, true},
		{[]int{most}, most / 2, 0, true},
		{[]int{most}, most/2 + 1, 0, false},
		{[]int{most}, 0, most/2 + 1, true},
		{[]int{most}, 0, most / 2, false},
		{[]int{most - 1}, most / 2, most / 2, true},
		{[]int{most - 1}, most / 2, most/2 - 1, false},
		{[]int{most}, most, most, false},
		{[]int{6}, least, 3, true},
		{[]int{6}, most, 0, false},
	} {
		if got := keys.Within(c.k, c.inv, c.resp); got != c.want {
			t.Errorf("%d: Within(%v, %d, %d): %v", i, c.k, c.inv, c.resp, got)
		}
	}
}

// 4.2: the tick t alone is 2t, and 2t - 1 is immediately before it.
func TestWithinOfTicks(t *testing.T) {
	for tick := 1; tick <= 6; tick++ {
		for inv := 1; inv <= 7; inv++ {
			for resp := inv; resp <= 7; resp++ {
				if got, want := keys.Within([]int{2 * tick}, inv, resp), inv <= tick && tick <= resp; got != want {
					t.Errorf("at %d: Within %d and %d: %v", tick, inv, resp, got)
				}
				if got, want := keys.Within([]int{2*tick - 1}, inv, resp), inv < tick && tick <= resp; got != want {
					t.Errorf("before %d: Within %d and %d: %v", tick, inv, resp, got)
				}
			}
		}
	}
}

// R4: keys are neither changed nor kept, and results are new memory.
func TestListsAreIndependent(t *testing.T) {
	list := [][]int{{5, 1}, {4}, {4}, {9}}
	spare := []int{7, 7, 1}
	list[3] = spare[:1]
	keys.Compare(list[0], list[3])
	keys.Within(list[3], 3, 4)
	first, second := keys.Order(list[:2]), keys.Order(list[:2])
	if !slices.EqualFunc(list, [][]int{{5, 1}, {4}, {4}, {7}}, slices.Equal) || !slices.Equal(spare, []int{7, 7, 1}) {
		t.Error(list, spare)
	}
	list[0][0], list[1] = 0, nil
	first[0] = 99
	_ = append(first[:1], 98)
	if !slices.Equal(first, []int{99, 98}) || !slices.Equal(second, []int{1, 0}) {
		t.Error(first, second)
	}
}
