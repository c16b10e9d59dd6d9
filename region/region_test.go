package region_test

import (
	"math"
	"slices"
	"testing"

	"roundelay/api"
	"roundelay/region"
)

// most is the number of words that all regions can have together.
const most = api.MaxWords

// rows calls do with every list of up to three sizes from -1 to 4.
func rows(do func(sizes []int)) {
	do(nil)
	for a := -1; a <= 4; a++ {
		do([]int{a})
		for b := -1; b <= 4; b++ {
			do([]int{a, b})
			for c := -1; c <= 4; c++ {
				do([]int{a, b, c})
			}
		}
	}
}

// 3.1
func TestLay(t *testing.T) {
	for i, c := range []struct {
		sizes  []int
		begins []int
		end    int
	}{
		{nil, nil, 0},
		{[]int{}, nil, 0},
		{[]int{2, 0, 3}, []int{0, 2, 2}, 5},
		{[]int{0}, []int{0}, 0},
		{[]int{0, 0, 0}, []int{0, 0, 0}, 0},
		{[]int{1}, []int{0}, 1},
		{[]int{0, 1}, []int{0, 0}, 1},
		{[]int{1, 0}, []int{0, 1}, 1},
		{[]int{3, 1, 4, 1, 5}, []int{0, 3, 4, 8, 9}, 14},
		{[]int{most}, []int{0}, most},
		{[]int{most, 0}, []int{0, most}, most},
		{[]int{0, most, 0, 0}, []int{0, 0, most, most}, most},
		{[]int{most - 1, 1}, []int{0, most - 1}, most},
		{[]int{1, most - 1}, []int{0, 1}, most},
		{[]int{most / 2, most / 2}, []int{0, most / 2}, most},
	} {
		begins, end, e := region.Lay(c.sizes...)
		if !slices.Equal(begins, c.begins) || end != c.end || e != api.OK {
			t.Errorf("%d: Lay(%v): %v, %d, %v; want %v, %d", i, c.sizes, begins, end, e, c.begins, c.end)
		}
	}
}

// 3.1: the first size that is wrong is the result, and nothing is returned beside it.
func TestLayOfWrongSizes(t *testing.T) {
	for i, c := range []struct {
		sizes []int
		e     api.Errno
	}{
		{[]int{-1}, api.ErrArg},
		{[]int{math.MinInt}, api.ErrArg},
		{[]int{2, -1}, api.ErrArg},
		{[]int{most, -1}, api.ErrArg},
		{[]int{most, 0, -1}, api.ErrArg},
		{[]int{-1, most + 1}, api.ErrArg},
		{[]int{-1, math.MaxInt}, api.ErrArg},
		{[]int{most, math.MinInt}, api.ErrArg},
		{[]int{most + 1}, api.ErrLong},
		{[]int{math.MaxInt}, api.ErrLong},
		{[]int{most, 1}, api.ErrLong},
		{[]int{1, most}, api.ErrLong},
		{[]int{most - 1, 1, 1}, api.ErrLong},
		{[]int{1, math.MaxInt}, api.ErrLong},
		{[]int{most, math.MaxInt}, api.ErrLong},
		{[]int{math.MaxInt, math.MaxInt}, api.ErrLong},
		{[]int{math.MaxInt, math.MaxInt, 2}, api.ErrLong},
		{[]int{most, 1, -1}, api.ErrLong},
		{[]int{math.MaxInt, -1}, api.ErrLong},
		{[]int{2, most, -5}, api.ErrLong},      // a sum that a later size would bring back
		{[]int{most + 1, -1, 3}, api.ErrLong},  // the same
		{[]int{2, -1, most}, api.ErrArg},       // the negative one comes first
		{[]int{0, 0, math.MinInt}, api.ErrArg}, // none of the others is wrong
	} {
		begins, end, e := region.Lay(c.sizes...)
		if begins != nil || end != 0 || e != c.e {
			t.Errorf("%d: Lay(%v): %v, %d, %v; want %v", i, c.sizes, begins, end, e, c.e)
		}
	}
}

// 3.1: there may be any number of sizes.
func TestLayOfManySizes(t *testing.T) {
	sizes := make([]int, 3*most)
	for i := range sizes {
		if i%3 == 1 {
			sizes[i] = 1
		}
	}
	begins, end, e := region.Lay(sizes...)
	if len(begins) != len(sizes) || end != most || e != api.OK {
		t.Fatal(len(begins), end, e)
	}
	for i, begin := range begins {
		if want := (i + 1) / 3; begin != want {
			t.Fatalf("the region %d begins at %d; want %d", i, begin, want)
		}
	}
	if i, at, ok := region.Find(most-1, sizes...); i != 3*most-2 || at != 0 || !ok {
		t.Error(i, at, ok)
	}
	if begins, end, e := region.Lay(append(sizes, 1)...); begins != nil || end != 0 || e != api.ErrLong {
		t.Error(len(begins), end, e)
	}
}

// 3.2
func TestFind(t *testing.T) {
	for i, c := range []struct {
		a     int
		sizes []int
		i, at int
	}{
		{4, []int{2, 0, 3}, 2, 2},
		{0, []int{2, 0, 3}, 0, 0},
		{1, []int{2, 0, 3}, 0, 1},
		{2, []int{2, 0, 3}, 2, 0},
		{3, []int{2, 0, 3}, 2, 1},
		{0, []int{1}, 0, 0},
		{0, []int{0, 0, 1}, 2, 0},
		{0, []int{0, 0, 1, 0, 0}, 2, 0},
		{1, []int{0, 0, 1, 0, 1}, 4, 0},
		{0, []int{most}, 0, 0},
		{most - 1, []int{most}, 0, most - 1},
		{most - 1, []int{0, most, 0}, 1, most - 1},
		{most - 1, []int{most - 1, 1}, 1, 0},
		{most - 1, []int{1, most - 1}, 1, most - 2},
	} {
		if r, at, ok := region.Find(c.a, c.sizes...); r != c.i || at != c.at || !ok {
			t.Errorf("%d: Find(%d, %v): %d, %d, %v; want %d, %d", i, c.a, c.sizes, r, at, ok, c.i, c.at)
		}
	}
}

// 3.2
func TestFindOfNothing(t *testing.T) {
	for i, c := range []struct {
		a     int
		sizes []int
	}{
		{0, nil},
		{0, []int{}},
		{0, []int{0}},
		{0, []int{0, 0}},
		{1, []int{1}},
		{5, []int{2, 0, 3}},
		{6, []int{2, 0, 3}},
		{-1, []int{2, 0, 3}},
		{-2, []int{0, 2, 0, 3}},
		{math.MinInt, []int{2, 0, 3}},
		{math.MinInt, []int{most}},
		{math.MaxInt, []int{2, 0, 3}},
		{math.MaxInt, []int{most}},
		{most, []int{most}},
		{most, []int{most, 0}},
		{0, []int{2, -1}},         // Lay accepts none of these,
		{0, []int{2, most}},       // though they have the address
		{0, []int{-1, 2}},         // in a region that is not wrong
		{1, []int{2, 0, most, 1}}, // by itself
		{0, []int{most + 1}},
		{0, []int{math.MaxInt}},
		{0, []int{1, math.MaxInt}},
		{0, []int{1, math.MaxInt, math.MaxInt, 2}},
		{0, []int{1, math.MinInt}},
		{-1, []int{-1}},
	} {
		if r, at, ok := region.Find(c.a, c.sizes...); r != 0 || at != 0 || ok {
			t.Errorf("%d: Find(%d, %v): %d, %d, %v", i, c.a, c.sizes, r, at, ok)
		}
	}
}

// 3.1, 3.2, 3.3: each region has as many consecutive addresses as its size says, and no other has any of them.
func TestEachAddressIsInOneRegion(t *testing.T) {
	rows(func(sizes []int) {
		type place struct{ region, at int }
		var places []place // of each address
		for i, size := range sizes {
			if size < 0 {
				places = nil
				break
			}
			for at := range size {
				places = append(places, place{i, at})
			}
		}
		begins, end, e := region.Lay(sizes...)
		if wrong := slices.Contains(sizes, -1); wrong != (e == api.ErrArg) || end != len(places) {
			t.Fatalf("Lay(%v): %v, %d, %v", sizes, begins, end, e)
		}
		for a := -3; a < 16; a++ {
			var want place
			exists := a >= 0 && a < len(places)
			if exists {
				want = places[a]
			}
			i, at, ok := region.Find(a, sizes...)
			if i != want.region || at != want.at || ok != exists {
				t.Fatalf("Find(%d, %v): %d, %d, %v; want %v, %v", a, sizes, i, at, ok, want, exists)
			}
			if ok && begins[i]+at != a {
				t.Fatalf("Find(%d, %v): %d, %d, but the region begins at %d", a, sizes, i, at, begins[i])
			}
		}
	})
}

// R4: the sizes are neither changed nor kept, and results are new memory.
func TestListsAreIndependent(t *testing.T) {
	sizes := []int{2, 0, 3, 77, 78}
	first, _, _ := region.Lay(sizes[:3]...)
	second, _, _ := region.Lay(sizes[:3]...)
	region.Find(4, sizes[:3]...)
	if !slices.Equal(sizes, []int{2, 0, 3, 77, 78}) {
		t.Error(sizes)
	}
	sizes[0] = 9
	first[1], first[2] = 98, 99
	_ = append(first, 5)
	if !slices.Equal(first, []int{0, 98, 99}) || !slices.Equal(second, []int{0, 2, 2}) {
		t.Error(first, second)
	}
	if !slices.Equal(sizes, []int{9, 0, 3, 77, 78}) {
		t.Error(sizes)
	}
}
