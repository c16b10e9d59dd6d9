package node_test

import (
	"math"
	"testing"

	"roundelay/api"
	"roundelay/node"
)

const (
	numbers  = 1 << 10 // how many numbers there are with that of no node
	versions = 1 << 20
	lows     = 1 << 30
	values   = 1 << 24
)

// samples are words with bits at both ends of each part, in all places, and in turns.
func samples() []uint64 {
	l := []uint64{0, 1, 2, 3, math.MaxUint64, 0x0123456789abcdef, 0xfedcba9876543210, 0xaaaaaaaaaaaaaaaa, 0x5555555555555555}
	for i := range 64 {
		l = append(l, 1<<i, 1<<i-1, ^uint64(1<<i))
	}
	return l
}

// inRange are numbers below most, about both ends and between them.
func inRange(most uint64) []uint64 {
	return []uint64{0, 1, 2, 3, 7, most / 3, most / 2, most - 2, most - 1}
}

// outOfRange are numbers not below most.
func outOfRange(most uint64) []uint64 {
	return []uint64{most, most + 1, 2 * most, 3*most - 1, 1 << 32, 1 << 34, 1 << 44, 1 << 63, math.MaxUint64 - most + 1, math.MaxUint64}
}

// someInts are numbers about the limits, and about the ends of the range of int.
func someInts() []int {
	l := []int{math.MinInt, math.MinInt + 1, -1 << 32, -1024, 1<<32 + 1, math.MaxInt - 1, math.MaxInt}
	for i := -3; i <= 35; i++ {
		l = append(l, i)
	}
	return l
}

// queues calls visit for all numbers of threads and places that queues have.
func queues(visit func(n, k int)) {
	for n := 1; n <= 16; n++ {
		for k := 1; k <= 32; k++ {
			visit(n, k)
		}
	}
}

// noQueues calls visit for numbers of threads and places that no queue has.
func noQueues(visit func(n, k int)) {
	for _, n := range someInts() {
		for _, k := range someInts() {
			if n < 1 || n > 16 || k < 1 || k > 32 {
				visit(n, k)
			}
		}
	}
}

// 20.1
func TestRef(t *testing.T) {
	for i := 1; i < numbers; i++ {
		for _, v := range inRange(versions) {
			if w, e := node.Ref(i, v); w != uint64(i)+1024*v || e != api.OK {
				t.Errorf("Ref(%d, %d): %d, %v", i, v, w, e)
			}
		}
		for _, v := range outOfRange(versions) {
			if w, e := node.Ref(i, v); w != 0 || e != api.ErrRange {
				t.Errorf("Ref(%d, %d): %d, %v", i, v, w, e)
			}
		}
	}
}

// 20.1: no other number is that of a node.
func TestRefToNoNode(t *testing.T) {
	for _, i := range []int{math.MinInt, -1 << 32, -1 << 20, -1024, -1023, -1, 0, 1024, 1025, 2047, 2048, 1 << 20, 1<<32 + 1, math.MaxInt} {
		for _, v := range append(inRange(versions), outOfRange(versions)...) {
			if w, e := node.Ref(i, v); w != 0 || e != api.ErrRange {
				t.Errorf("Ref(%d, %d): %d, %v", i, v, w, e)
			}
		}
	}
}

// composed checks a call that composes a word of a version and a number below it.
func composed(t *testing.T, call func(v, x uint64) (uint64, api.Errno), least, most uint64) {
	t.Helper()
	for _, v := range append(inRange(versions), outOfRange(versions)...) {
		for _, x := range append(inRange(most), outOfRange(most)...) {
			want, wantErr := least*v+x, api.OK
			if v >= versions || x >= most {
				want, wantErr = 0, api.ErrRange
			}
			if w, e := call(v, x); w != want || e != wantErr {
				t.Errorf("the version %#x with %#x: %#x, %v; want %#x, %v", v, x, w, e, want, wantErr)
			}
		}
	}
}

// 20.1
func TestStamp(t *testing.T) {
	composed(t, node.Stamp, 1<<30, lows)
}

// 20.1
func TestValue(t *testing.T) {
	composed(t, node.Value, 1<<32, values)
}

// 20.1: any word is split, one that refers to no node, too.
func TestSplits(t *testing.T) {
	for _, w := range samples() {
		if i, v := node.Split(w); i != int(w%1024) || v != w/1024 {
			t.Errorf("Split(%#x): %d, %#x", w, i, v)
		}
		if v, low := node.Unstamp(w); v != w/(1<<30) || low != w%(1<<30) {
			t.Errorf("Unstamp(%#x): %#x, %#x", w, v, low)
		}
		if v, x := node.Unvalue(w); v != w/(1<<32) || x != w%(1<<32) {
			t.Errorf("Unvalue(%#x): %#x, %#x", w, v, x)
		}
	}
}

// 20.2
func TestSize(t *testing.T) {
	queues(func(n, k int) {
		if size := node.Size(n, k); size != 2+n+4*(1+n*k) {
			t.Errorf("Size(%d, %d): %d", n, k, size)
		}
	})
	noQueues(func(n, k int) {
		if size := node.Size(n, k); size != 0 {
			t.Errorf("Size(%d, %d): %d", n, k, size)
		}
	})
}

// 20.2: the chapter's examples.
func TestExamples(t *testing.T) {
	if size := node.Size(2, 3); size != 32 {
		t.Error(size)
	}
	if at, ok := node.At(2, 3, 1, 0); at != 4 || !ok {
		t.Error(at, ok)
	}
	if owner, ok := node.Owner(2, 3, 5); owner != 1 || !ok {
		t.Error(owner, ok)
	}
}

// 20.2, 20.3: after the head, the tail and the descriptors, each word of a queue is one field of one node.
func TestFieldsFillTheQueue(t *testing.T) {
	queues(func(n, k int) {
		want := 2 + n
		for i := 1; i <= 1+n*k; i++ {
			for field := range 4 {
				if at, ok := node.At(n, k, i, field); at != want || !ok {
					t.Errorf("At(%d, %d, %d, %d): %d, %v; want %d", n, k, i, field, at, ok, want)
				}
				want++
			}
		}
		if want != node.Size(n, k) {
			t.Errorf("Size(%d, %d): %d; want %d", n, k, node.Size(n, k), want)
		}
	})
}

// noField checks that a queue has no such field.
func noField(t *testing.T, n, k, i, field int) {
	t.Helper()
	if at, ok := node.At(n, k, i, field); at != 0 || ok {
		t.Errorf("At(%d, %d, %d, %d): %d, %v", n, k, i, field, at, ok)
	}
}

// 20.2
func TestNoField(t *testing.T) {
	queues(func(n, k int) {
		for field := range 4 {
			for _, i := range []int{math.MinInt, -1, 0, 2 + n*k, 3 + n*k, 1024 + n*k, math.MaxInt} {
				noField(t, n, k, i, field)
			}
		}
		for _, i := range []int{1, 2, 1 + n*k} {
			for _, field := range []int{math.MinInt, -4, -1, 4, 5, 1 << 32, math.MaxInt} {
				noField(t, n, k, i, field)
			}
		}
	})
	noQueues(func(n, k int) {
		for _, i := range []int{math.MinInt, -1, 0, 1, 2, math.MaxInt} {
			for _, field := range []int{-1, 0, 3, 4} {
				noField(t, n, k, i, field)
			}
		}
	})
}

// 20.2: the node 1 is nobody's; from 2 on, each thread has k nodes, that of the thread 0 first.
func TestOwner(t *testing.T) {
	queues(func(n, k int) {
		if owner, ok := node.Owner(n, k, 1); owner != 0 || ok {
			t.Errorf("Owner(%d, %d, 1): %d, %v", n, k, owner, ok)
		}
		i := 2
		for thread := range n {
			for range k {
				if owner, ok := node.Owner(n, k, i); owner != thread || !ok {
					t.Errorf("Owner(%d, %d, %d): %d, %v; want %d", n, k, i, owner, ok, thread)
				}
				i++
			}
		}
	})
}

// noOwner checks that nobody owns a node.
func noOwner(t *testing.T, n, k, i int) {
	t.Helper()
	if owner, ok := node.Owner(n, k, i); owner != 0 || ok {
		t.Errorf("Owner(%d, %d, %d): %d, %v", n, k, i, owner, ok)
	}
}

// 20.2
func TestNoOwner(t *testing.T) {
	queues(func(n, k int) {
		for _, i := range []int{math.MinInt, -1, 0, 1, 2 + n*k, 3 + n*k, 1024 + n*k, math.MaxInt} {
			noOwner(t, n, k, i)
		}
	})
	noQueues(func(n, k int) {
		for _, i := range []int{math.MinInt, -1, 0, 1, 2, 3, 5, math.MaxInt} {
			noOwner(t, n, k, i)
		}
	})
}

// 20.3
func TestWordsAreSplitIntoWhatTheyWereComposedOf(t *testing.T) {
	for _, v := range inRange(versions) {
		for i := 1; i < numbers; i++ {
			w, _ := node.Ref(i, v)
			if gotI, gotV := node.Split(w); gotI != i || gotV != v {
				t.Errorf("the node %d, the version %d: %d, %d", i, v, gotI, gotV)
			}
		}
		for _, low := range inRange(lows) {
			w, _ := node.Stamp(v, low)
			if gotV, gotLow := node.Unstamp(w); gotV != v || gotLow != low {
				t.Errorf("the version %d, the number %d: %d, %d", v, low, gotV, gotLow)
			}
		}
		for _, x := range inRange(values) {
			w, _ := node.Value(v, x)
			if gotV, gotX := node.Unvalue(w); gotV != v || gotX != x {
				t.Errorf("the version %d, the value %d: %d, %d", v, x, gotV, gotX)
			}
		}
	}
}

// 20.1: next of a node contains any reference: it is stamped with the version of that node.
func TestEachReferenceIsStamped(t *testing.T) {
	for _, v := range inRange(versions) {
		for _, i := range []int{1, 2, 513, 1023} {
			ref, e := node.Ref(i, v)
			if e != api.OK {
				t.Fatal(i, v, e)
			}
			w, e := node.Stamp(7, ref)
			if e != api.OK || w != 7<<30+ref {
				t.Errorf("%d, %v", w, e)
			}
		}
	}
}
