package mem_test

import (
	"math"
	"slices"
	"testing"

	"roundelay/api"
	"roundelay/mem"
)

// build makes a memory that must be made.
func build(t *testing.T, words ...uint64) *mem.Memory {
	t.Helper()
	m, e := mem.New(words)
	if e != api.OK || m == nil {
		t.Fatalf("New(%v): %v, %v", words, m, e)
	}
	return m
}

// holds checks a memory's words.
func holds(t *testing.T, m *mem.Memory, want ...uint64) {
	t.Helper()
	if l := m.Words(); !slices.Equal(l, want) {
		t.Errorf("the words are %v; want %v", l, want)
	}
	if n := m.Len(); n != len(want) {
		t.Errorf("there are %d words; want %d", n, len(want))
	}
}

// outside are addresses that a memory of n words does not have.
func outside(n int) []int {
	return []int{-1, -2, -n, -n - 1, n, n + 1, 1 << 32, math.MaxInt, math.MinInt}
}

// 2.1
func TestNew(t *testing.T) {
	for _, n := range []int{0, 1, 2, 1000, api.MaxWords - 1, api.MaxWords} {
		words := make([]uint64, n)
		for i := range words {
			words[i] = uint64(i) + 3
		}
		m := build(t, words...)
		holds(t, m, words...)
		for i := range words {
			if v := m.Read(i); v != uint64(i)+3 {
				t.Fatalf("the word %d of %d is %d", i, n, v)
			}
		}
	}
	for _, n := range []int{api.MaxWords + 1, api.MaxWords + 2, 2 * api.MaxWords} {
		if m, e := mem.New(make([]uint64, n)); m != nil || e != api.ErrLong {
			t.Errorf("%d words: %v, %v", n, m, e)
		}
	}
	holds(t, build(t))
	// Spare capacity is no part of the words.
	m, e := mem.New(make([]uint64, 2, api.MaxWords+1))
	if e != api.OK {
		t.Fatal(e)
	}
	holds(t, m, 0, 0)
}

// 2.1
func TestReadAndWrite(t *testing.T) {
	m := build(t, 5, 7, 9)
	for a, want := range []uint64{5, 7, 9} {
		if v := m.Read(a); v != want {
			t.Errorf("the word %d is %d; want %d", a, v, want)
		}
	}
	m.Write(0, math.MaxUint64)
	m.Write(2, 0)
	if m.Read(0) != math.MaxUint64 || m.Read(1) != 7 || m.Read(2) != 0 {
		t.Error(m.Words())
	}
	m.Write(1, 1)
	m.Write(1, 2)
	holds(t, m, math.MaxUint64, 2, 0)
}

// 2.1
func TestSwap(t *testing.T) {
	m := build(t, 5, 7)
	if !m.Swap(1, 7, 9) {
		t.Error("the word was old")
	}
	holds(t, m, 5, 9)
	if m.Swap(1, 7, 11) || m.Swap(0, 9, 11) || m.Swap(0, 0, 11) {
		t.Error("the word was not old")
	}
	holds(t, m, 5, 9)
	// A word that is fresh already is not old, unless both are one number.
	if m.Swap(0, 4, 5) {
		t.Error("only fresh is the word")
	}
	if !m.Swap(0, 5, 5) {
		t.Error("old and fresh are the word")
	}
	if !m.Swap(0, 5, math.MaxUint64) || !m.Swap(0, math.MaxUint64, 0) {
		t.Error("the ends of the range")
	}
	holds(t, m, 0, 9)
}

// 2.1
func TestAdd(t *testing.T) {
	m := build(t, 5, 9)
	if v := m.Add(0, 3); v != 5 {
		t.Error(v)
	}
	holds(t, m, 8, 9)
	if v := m.Add(1, math.MaxUint64); v != 9 {
		t.Error(v)
	}
	holds(t, m, 8, 8)
	if v := m.Add(1, math.MaxUint64-7); v != 8 {
		t.Error(v)
	}
	holds(t, m, 8, 0)
	if v := m.Add(0, 0); v != 8 {
		t.Error(v)
	}
	holds(t, m, 8, 0)
}

// 2.1: the example of the whole chapter.
func TestExample(t *testing.T) {
	m := build(t, 5, 7)
	if !m.Swap(1, 7, 9) || m.Add(0, 3) != 5 {
		t.Error("accesses")
	}
	holds(t, m, 8, 9)
}

// 2.1, 2.2: an access to an address that there isn't changes nothing, and is counted only as Fault.
func TestFaults(t *testing.T) {
	for _, words := range [][]uint64{nil, {5}, {5, 7, 9}} {
		m := build(t, words...)
		faults := 0
		for _, a := range outside(len(words)) {
			if a >= 0 && a < len(words) {
				continue // -n of no words is 0, which it does not have either
			}
			if v := m.Read(a); v != 0 {
				t.Errorf("Read(%d): %d", a, v)
			}
			m.Write(a, 3)
			if m.Swap(a, 0, 3) || m.Swap(a, 5, 3) {
				t.Errorf("Swap(%d)", a)
			}
			if v := m.Add(a, 3); v != 0 {
				t.Errorf("Add(%d): %d", a, v)
			}
			faults += 5
			if c := m.Counts(); c != (api.Counts{Fault: faults}) {
				t.Fatalf("at %d: %+v", a, c)
			}
			holds(t, m, words...)
		}
	}
}

// 2.2
func TestCountsOfEachKind(t *testing.T) {
	m := build(t, 5, 7)
	if c := m.Counts(); c != (api.Counts{}) {
		t.Errorf("before any access: %+v", c)
	}
	for _, c := range []struct {
		name string
		do   func()
		want api.Counts
	}{
		{"Read", func() { m.Read(0) }, api.Counts{Read: 1}},
		{"Read again", func() { m.Read(0) }, api.Counts{Read: 2}},
		{"Write", func() { m.Write(1, 4) }, api.Counts{Read: 2, Write: 1}},
		{"Write of the same", func() { m.Write(1, 4) }, api.Counts{Read: 2, Write: 2}},
		{"Swap that is done", func() { m.Swap(1, 4, 6) }, api.Counts{Read: 2, Write: 2, Swap: 1}},
		{"Swap that is not", func() { m.Swap(1, 4, 8) }, api.Counts{Read: 2, Write: 2, Swap: 2}},
		{"Add", func() { m.Add(0, 1) }, api.Counts{Read: 2, Write: 2, Swap: 2, Add: 1}},
		{"Add of nothing", func() { m.Add(0, 0) }, api.Counts{Read: 2, Write: 2, Swap: 2, Add: 2}},
		{"Fault", func() { m.Read(2) }, api.Counts{Read: 2, Write: 2, Swap: 2, Add: 2, Fault: 1}},
		{"what is no access", func() { m.Len(); m.Words(); m.Counts() }, api.Counts{Read: 2, Write: 2, Swap: 2, Add: 2, Fault: 1}},
	} {
		c.do()
		if got := m.Counts(); got != c.want {
			t.Errorf("%s: %+v; want %+v", c.name, got, c.want)
		}
	}
	holds(t, m, 6, 6)
}

// 2.1, 2.2: a nil memory has no words.
func TestNilMemory(t *testing.T) {
	var m *mem.Memory
	for _, a := range append(outside(0), 0) {
		m.Write(a, 1)
		if m.Read(a) != 0 || m.Swap(a, 0, 1) || m.Add(a, 1) != 0 {
			t.Errorf("at %d", a)
		}
	}
	holds(t, m)
	if c := m.Counts(); c != (api.Counts{}) {
		t.Errorf("%+v", c)
	}
}

// 2.1, 2.2: neither has one that New did not make.
func TestZeroMemory(t *testing.T) {
	m := new(mem.Memory)
	m.Write(0, 1)
	if m.Read(0) != 0 || m.Swap(0, 0, 1) || m.Add(0, 1) != 0 {
		t.Error("accesses")
	}
	holds(t, m)
	if c := m.Counts(); c != (api.Counts{Fault: 4}) {
		t.Errorf("%+v", c)
	}
}

// 2.3
func TestMemoryIsIndependentOfWhatItWasMadeOf(t *testing.T) {
	words := []uint64{5, 7, 77, 78}
	m, e := mem.New(words[:2])
	if e != api.OK {
		t.Fatal(e)
	}
	words[0] = 50
	holds(t, m, 5, 7)
	m.Write(0, 1)
	m.Add(1, 1)
	m.Write(2, 1)
	if !slices.Equal(words, []uint64{50, 7, 77, 78}) {
		t.Error(words)
	}
}

// 2.3
func TestMemoryIsIndependentOfWhatItReturned(t *testing.T) {
	m := build(t, 5, 7)
	first, second := m.Words(), m.Words()
	first[0] = 50
	_ = append(first[:1], 60)
	holds(t, m, 5, 7)
	if !slices.Equal(second, []uint64{5, 7}) {
		t.Error(second)
	}
	m.Write(0, 1)
	m.Swap(1, 7, 2)
	if !slices.Equal(first, []uint64{50, 60}) || !slices.Equal(second, []uint64{5, 7}) {
		t.Error(first, second)
	}
	holds(t, m, 1, 2)
}

// 2.3
func TestMemoriesAreIndependentOfEachOther(t *testing.T) {
	words := []uint64{5, 7}
	a, b := build(t, words...), build(t, words...)
	a.Write(0, 1)
	a.Read(9)
	holds(t, b, 5, 7)
	if c := b.Counts(); c != (api.Counts{}) {
		t.Errorf("%+v", c)
	}
}

// 2.1, 2.2: a long row of accesses comes to what a plain list of words comes to.
func TestManyAccesses(t *testing.T) {
	words := []uint64{0, 1, 2, 3}
	m := build(t, words...)
	var want api.Counts
	state := uint64(1)
	next := func(n uint64) uint64 { // a fixed row of numbers
		state = state*6364136223846793005 + 1442695040888963407
		return (state >> 33) % n
	}
	for i := range 5000 {
		a, kind, x, y := int(next(6))-1, next(4), next(4), next(4)
		if a < 0 || a >= len(words) {
			kind += 4
			want.Fault++
		}
		switch kind {
		case 0:
			want.Read++
			if v := m.Read(a); v != words[a] {
				t.Fatalf("%d: Read: %d; want %d", i, v, words[a])
			}
		case 1:
			want.Write++
			m.Write(a, x)
			words[a] = x
		case 2:
			want.Swap++
			same := words[a] == x
			if done := m.Swap(a, x, y); done != same {
				t.Fatalf("%d: Swap: %v; want %v", i, done, same)
			}
			if same {
				words[a] = y
			}
		case 3:
			want.Add++
			if v := m.Add(a, -x); v != words[a] {
				t.Fatalf("%d: Add: %d; want %d", i, v, words[a])
			}
			words[a] -= x
		case 4:
			m.Read(a)
		case 5:
			m.Write(a, x)
		case 6:
			m.Swap(a, x, y)
		default:
			m.Add(a, x)
		}
	}
	holds(t, m, words...)
	if c := m.Counts(); c != want {
		t.Errorf("%+v; want %+v", c, want)
	}
}
