package word_test

import (
	"math"
	"slices"
	"testing"

	"roundelay/api"
	"roundelay/word"
)

// samples are words with bits at both ends, in all places, and in turns.
var samples = []uint64{0, 1, 1 << 63, math.MaxUint64, 0x0123456789abcdef, 0xaaaaaaaaaaaaaaaa, 0x5555555555555555}

// bounds are numbers about the ends of a word, and of the range of int.
func bounds() []int {
	l := []int{math.MinInt, math.MinInt + 1, math.MinInt + 64, math.MaxInt - 64, math.MaxInt - 63, math.MaxInt - 1, math.MaxInt}
	for i := -2; i <= 67; i++ {
		l = append(l, i)
	}
	return l
}

// hasField tells whether a word has a field, without a sum that leaves the range of int.
func hasField(at, size int) bool {
	if at < 0 || at > 64 || size < 1 || size > 64 {
		return false
	}
	return at+size <= 64
}

// bit is a bit of a word, and 0 above it.
func bit(w uint64, i int) uint64 {
	if i < 64 && w&(1<<i) != 0 {
		return 1
	}
	return 0
}

// fits tells whether v has no bit from the bit size on.
func fits(v uint64, size int) bool {
	for i := size; i < 64; i++ {
		if bit(v, i) != 0 {
			return false
		}
	}
	return true
}

// wantGet reads a field bit by bit.
func wantGet(w uint64, at, size int) (uint64, api.Errno) {
	if !hasField(at, size) {
		return 0, api.ErrArg
	}
	var v uint64
	for i := range size {
		v |= bit(w, at+i) << i
	}
	return v, api.OK
}

// wantPut writes a field bit by bit.
func wantPut(w uint64, at, size int, v uint64) (uint64, api.Errno) {
	if !hasField(at, size) {
		return 0, api.ErrArg
	}
	if !fits(v, size) {
		return 0, api.ErrRange
	}
	var out uint64
	for i := range 64 {
		if i >= at && i < at+size {
			out |= bit(v, i-at) << i
		} else {
			out |= bit(w, i) << i
		}
	}
	return out, api.OK
}

// 1.1
func TestGetOfEveryField(t *testing.T) {
	for _, w := range samples {
		for _, at := range bounds() {
			for _, size := range bounds() {
				v, e := word.Get(w, at, size)
				wv, we := wantGet(w, at, size)
				if v != wv || e != we {
					t.Fatalf("Get(%#x, %d, %d): %#x, %v; want %#x, %v", w, at, size, v, e, wv, we)
				}
			}
		}
	}
}

// 1.1
func TestPutIntoEveryField(t *testing.T) {
	for _, w := range samples {
		for _, at := range bounds() {
			for _, size := range bounds() {
				for _, v := range valuesAbout(size) {
					got, e := word.Put(w, at, size, v)
					want, we := wantPut(w, at, size, v)
					if got != want || e != we {
						t.Fatalf("Put(%#x, %d, %d, %#x): %#x, %v; want %#x, %v", w, at, size, v, got, e, want, we)
					}
				}
			}
		}
	}
}

// valuesAbout are numbers that just fit a field of size bits, and that just don't.
func valuesAbout(size int) []uint64 {
	l := []uint64{0, 1, math.MaxUint64}
	if size >= 1 && size < 64 {
		l = append(l, 1<<size-1, 1<<size, 1<<(size-1))
	}
	return l
}

// 1.1: the error that is mentioned first is the result.
func TestPutWithTwoErrors(t *testing.T) {
	for _, c := range []struct {
		at, size int
	}{{60, 5}, {0, 0}, {-1, 2}, {64, 1}, {math.MaxInt, 1}} {
		if w, e := word.Put(math.MaxUint64, c.at, c.size, math.MaxUint64); w != 0 || e != api.ErrArg {
			t.Errorf("at %d, size %d: %#x, %v", c.at, c.size, w, e)
		}
	}
	if w, e := word.Put(0, 60, 5, 1); w != 0 || e != api.ErrArg {
		t.Errorf("the chapter's example: %#x, %v", w, e)
	}
}

// 1.2
func TestPack(t *testing.T) {
	const most = math.MaxInt
	for i, c := range []struct {
		l []word.Field
		w uint64
		e api.Errno
	}{
		{nil, 0, api.OK},
		{[]word.Field{}, 0, api.OK},
		{[]word.Field{{4, 5}, {8, 1}}, 21, api.OK},
		{[]word.Field{{8, 1}, {4, 5}}, 0x501, api.OK},
		{[]word.Field{{64, math.MaxUint64}}, math.MaxUint64, api.OK},
		{[]word.Field{{64, 7}}, 7, api.OK},
		{[]word.Field{{63, 0}, {1, 1}}, 1 << 63, api.OK},
		{[]word.Field{{1, 1}, {63, 1<<63 - 1}}, math.MaxUint64, api.OK},
		{[]word.Field{{3, 7}}, 7, api.OK},
		{[]word.Field{{3, 8}}, 0, api.ErrRange},
		{[]word.Field{{63, 1 << 63}}, 0, api.ErrRange},
		{[]word.Field{{0, 0}}, 0, api.ErrArg},
		{[]word.Field{{-1, 0}}, 0, api.ErrArg},
		{[]word.Field{{65, 0}}, 0, api.ErrArg},
		{[]word.Field{{most, 0}}, 0, api.ErrArg},
		{[]word.Field{{math.MinInt, 0}}, 0, api.ErrArg},
		{[]word.Field{{1, 1}, {most, 0}}, 0, api.ErrArg},
		{[]word.Field{{1, 1}, {math.MinInt, 0}}, 0, api.ErrArg},
		{[]word.Field{{60, 1}, {4, 15}}, 15<<60 | 1, api.OK},
		{[]word.Field{{60, 1}, {5, 0}}, 0, api.ErrArg},
		{[]word.Field{{64, 1}, {1, 0}}, 0, api.ErrArg},
		{[]word.Field{{64, 1}, {0, 0}}, 0, api.ErrArg},
		{[]word.Field{{4, 5}, {8, 256}}, 0, api.ErrRange},
		{[]word.Field{{0, 1}}, 0, api.ErrArg},             // of one field, ErrArg is mentioned first
		{[]word.Field{{4, 16}, {0, 0}}, 0, api.ErrRange},  // of two, the first one's error
		{[]word.Field{{65, 0}, {4, 16}}, 0, api.ErrArg},   // the same
		{[]word.Field{{60, 0}, {5, 99}}, 0, api.ErrArg},   // too wide and too great
		{[]word.Field{{60, 0}, {4, 16}}, 0, api.ErrRange}, // the bits that are left, but too great
	} {
		if w, e := word.Pack(c.l...); w != c.w || e != c.e {
			t.Errorf("%d: Pack(%v): %#x, %v; want %#x, %v", i, c.l, w, e, c.w, c.e)
		}
	}
}

// 1.2
func TestUnpack(t *testing.T) {
	const all = math.MaxUint64
	for i, c := range []struct {
		w     uint64
		sizes []int
		l     []uint64
		e     api.Errno
	}{
		{21, []int{4, 8}, []uint64{5, 1}, api.OK},
		{21, nil, nil, api.OK},
		{21, []int{}, nil, api.OK},
		{all, []int{64}, []uint64{all}, api.OK},
		{all, []int{1, 63}, []uint64{1, 1<<63 - 1}, api.OK},
		{1 << 63, []int{63, 1}, []uint64{0, 1}, api.OK},
		{all, []int{4}, []uint64{15}, api.OK},
		{0x123, []int{4, 4, 4, 4}, []uint64{3, 2, 1, 0}, api.OK},
		{all, []int{0}, nil, api.ErrArg},
		{all, []int{-1}, nil, api.ErrArg},
		{all, []int{65}, nil, api.ErrArg},
		{all, []int{math.MaxInt}, nil, api.ErrArg},
		{all, []int{math.MinInt}, nil, api.ErrArg},
		{all, []int{4, 0}, nil, api.ErrArg},
		{all, []int{60, 5}, nil, api.ErrArg},
		{all, []int{64, 1}, nil, api.ErrArg},
		{all, []int{1, math.MaxInt}, nil, api.ErrArg},
		{all, []int{1, math.MaxInt, math.MaxInt, 3}, nil, api.ErrArg},
		{all, []int{1, math.MinInt}, nil, api.ErrArg},
	} {
		l, e := word.Unpack(c.w, c.sizes...)
		if !slices.Equal(l, c.l) || e != c.e || e != api.OK && l != nil {
			t.Errorf("%d: Unpack(%#x, %v): %v, %v; want %v, %v", i, c.w, c.sizes, l, e, c.l, c.e)
		}
	}
}

// 1.2: 64 fields of one bit are a word, and there is no place for one more.
func TestEachBitIsAField(t *testing.T) {
	for _, w := range samples {
		sizes := make([]int, 64)
		fields := make([]word.Field, 64)
		for i := range 64 {
			sizes[i] = 1
			fields[i] = word.Field{Size: 1, V: bit(w, i)}
		}
		l, e := word.Unpack(w, sizes...)
		if e != api.OK || len(l) != 64 {
			t.Fatal(l, e)
		}
		for i, v := range l {
			if v != bit(w, i) {
				t.Errorf("bit %d of %#x is %d", i, w, v)
			}
		}
		if got, e := word.Pack(fields...); got != w || e != api.OK {
			t.Errorf("%#x, %v", got, e)
		}
		if got, e := word.Pack(append(fields, word.Field{Size: 1})...); got != 0 || e != api.ErrArg {
			t.Errorf("one more: %#x, %v", got, e)
		}
		if l, e := word.Unpack(w, append(sizes, 1)...); l != nil || e != api.ErrArg {
			t.Errorf("one more: %v, %v", l, e)
		}
	}
}

// 1.3
func TestGetReturnsWhatPutStored(t *testing.T) {
	for _, w := range samples {
		for at := range 64 {
			for size := 1; size <= 64-at; size++ {
				for _, v := range valuesAbout(size) {
					if !fits(v, size) {
						continue
					}
					put, e := word.Put(w, at, size, v)
					if e != api.OK {
						t.Fatal(at, size, v, e)
					}
					if got, e := word.Get(put, at, size); got != v || e != api.OK {
						t.Fatalf("at %d, size %d: %#x, %v; want %#x", at, size, got, e, v)
					}
				}
			}
		}
	}
}

// 1.3
func TestUnpackInvertsPack(t *testing.T) {
	for _, sizes := range [][]int{nil, {1}, {64}, {1, 63}, {63, 1}, {4, 8}, {8, 4, 1}, {1, 2, 3, 4, 5, 6, 7, 8, 9, 10}, {31, 33}, {7, 7, 7, 7}} {
		for _, w := range samples {
			var fields []word.Field
			var values []uint64
			for i, size := range sizes {
				v := w >> i & (math.MaxUint64 >> (64 - size))
				fields = append(fields, word.Field{Size: size, V: v})
				values = append(values, v)
			}
			packed, e := word.Pack(fields...)
			if e != api.OK {
				t.Fatal(sizes, e)
			}
			if l, e := word.Unpack(packed, sizes...); !slices.Equal(l, values) || e != api.OK {
				t.Errorf("%v: %v, %v; want %v", sizes, l, e, values)
			}
		}
	}
}

// 1.3
func TestPackInvertsUnpack(t *testing.T) {
	for _, sizes := range [][]int{nil, {1}, {64}, {1, 63}, {63, 1}, {4, 8}, {1, 2, 3, 4, 5, 6, 7, 8, 9, 10}, {31, 33}} {
		total := 0
		for _, size := range sizes {
			total += size
		}
		for _, w := range samples {
			var low uint64
			for i := range total {
				low |= bit(w, i) << i
			}
			l, e := word.Unpack(low, sizes...)
			if e != api.OK {
				t.Fatal(sizes, e)
			}
			var fields []word.Field
			for i, v := range l {
				fields = append(fields, word.Field{Size: sizes[i], V: v})
			}
			if got, e := word.Pack(fields...); got != low || e != api.OK {
				t.Errorf("%v: %#x, %v; want %#x", sizes, got, e, low)
			}
		}
	}
}

// R4: lists that are passed are neither changed nor kept, and results are new memory.
func TestListsAreIndependent(t *testing.T) {
	fields := make([]word.Field, 2, 4)
	fields[0], fields[1] = word.Field{Size: 4, V: 5}, word.Field{Size: 8, V: 1}
	spare := fields[:4]
	spare[2], spare[3] = word.Field{Size: 9, V: 9}, word.Field{Size: 8, V: 8}
	before := slices.Clone(spare)
	word.Pack(fields...)
	if !slices.Equal(spare, before) {
		t.Error(spare)
	}
	sizes := []int{4, 8, 77, 78}
	first, _ := word.Unpack(21, sizes[:2]...)
	second, _ := word.Unpack(21, sizes[:2]...)
	if !slices.Equal(sizes, []int{4, 8, 77, 78}) {
		t.Error(sizes)
	}
	first[0], first[1] = 99, 98
	if !slices.Equal(second, []uint64{5, 1}) {
		t.Error(second)
	}
}
