package finish_test

import (
	"math"
	"slices"
	"testing"

	"roundelay/api"
	"roundelay/finish"
	"roundelay/node"
	"roundelay/trial"
)

const top = math.MaxUint64

// The fields of a node.
const (
	next = iota
	taker
	value
	mark
)

// finishing is one of the calls of the package.
type finishing func(n, k int, words []uint64) ([]uint64, int, api.Errno)

// at is the address of a field of the node i of a queue for n threads.
func at(n, i, field int) int {
	return 2 + n + 4*(i-1) + field
}

// ref is a reference to the node i with the version v.
func ref(i, v uint64) uint64 {
	return i + 1024*v
}

// stamp is a number with the version v.
func stamp(v, number uint64) uint64 {
	return v<<30 + number
}

// The flags of a descriptor.
const (
	pending = 1
	takes   = 2
)

// descriptor is the word of a descriptor.
func descriptor(flags, load, phase uint64) uint64 {
	return flags + 4*load + phase<<32
}

// queueWith is the words of a queue that are 0 but for these, by addresses.
func queueWith(n, k int, words map[int]uint64) []uint64 {
	l := make([]uint64, 6+n+4*n*k)
	for a, w := range words {
		l[a] = w
	}
	return l
}

// change is words of a queue, by their addresses.
type change map[int]uint64

// check checks what finishing makes of words, in how many accesses.
func check(t *testing.T, name string, f finishing, n, k int, words []uint64, changed change, steps int) {
	t.Helper()
	want := slices.Clone(words)
	for a, w := range changed {
		want[a] = w
	}
	if l, s, e := f(n, k, words); e != api.OK || s != steps || !slices.Equal(l, want) {
		t.Errorf("%s: %v: %v, %d, %v; want %v, %d", name, words, l, s, e, want, steps)
	}
}

// 21.1: the example of the chapter.
func TestExample(t *testing.T) {
	words := queueWith(1, 1, change{1: 1, at(1, 1, next): 1026})
	check(t, "example", finish.Tail, 1, 1, words, change{1: 1026}, 4)
}

// 21.1: each way that finishing at the tail can go, and what is next to it.
func TestTail(t *testing.T) {
	const n, k = 2, 3 // thread 0 has the nodes 2 to 4, thread 1 the nodes 5 to 7
	behind := ref(5, 9)
	waits := descriptor(pending, behind, 7)
	begin := change{1: ref(4, 6), at(n, 4, next): stamp(6, behind), 3: waits}
	done := change{1: behind, 3: descriptor(0, behind, 7)}
	for _, q := range []struct {
		name    string
		begin   change // beside those above
		changed change
		steps   int
	}{
		{"completes, and moves", nil, done, 5},
		{"whatever the head is", change{0: top}, done, 5},
		{"the node 1", change{1: 1, at(n, 1, next): behind}, done, 5},
		{"the last node", change{1: ref(7, 6), at(n, 7, next): stamp(6, behind)}, done, 5},
		{"behind itself", change{1: behind, at(n, 5, next): stamp(9, behind)}, done, 5},
		{"the greatest phase", change{3: descriptor(pending, behind, math.MaxUint32)}, change{1: behind, 3: descriptor(0, behind, math.MaxUint32)}, 5},

		{"the tail refers to no node", change{1: 0}, nil, 1},
		{"the tail refers to the node 0", change{1: ref(0, 6), 3: waits}, nil, 1},
		{"the tail refers to the node 8", change{1: ref(8, 6)}, nil, 1},
		{"the tail refers to the node 1023", change{1: top}, nil, 1},

		{"next has an older version", change{at(n, 4, next): stamp(5, behind)}, nil, 2},
		{"next has a newer version", change{at(n, 4, next): stamp(7, behind)}, nil, 2},
		{"nothing behind", change{at(n, 4, next): stamp(6, 0)}, nil, 2},
		{"the node 0 behind", change{at(n, 4, next): stamp(6, ref(0, 9))}, nil, 2},
		{"the node 1 behind, which nobody owns", change{at(n, 4, next): stamp(6, ref(1, 9))}, nil, 2},
		{"the node 8 behind", change{at(n, 4, next): stamp(6, ref(8, 9))}, nil, 2},
		{"the node 1023 behind", change{at(n, 4, next): stamp(6, 1<<30-1)}, nil, 2},

		{"not pending", change{3: descriptor(0, behind, 7)}, change{1: behind}, 4},
		{"takes", change{3: descriptor(pending+takes, behind, 7)}, change{1: behind}, 4},
		{"another node", change{3: descriptor(pending, ref(6, 9), 7)}, change{1: behind}, 4},
		{"another version", change{3: descriptor(pending, ref(5, 8), 7)}, change{1: behind}, 4},
		{"another thread", change{3: 0, 2: waits}, change{1: behind}, 4},
		{"the first place of a thread", change{at(n, 4, next): stamp(6, ref(2, 9)), 3: 0, 2: descriptor(pending, ref(2, 9), 1)}, change{1: ref(2, 9), 2: descriptor(0, ref(2, 9), 1)}, 5},
		{"the last place of a thread", change{at(n, 4, next): stamp(6, ref(4, 9)), 3: 0, 2: descriptor(pending, ref(4, 9), 1)}, change{1: ref(4, 9), 2: descriptor(0, ref(4, 9), 1)}, 5},
		{"the last place of all", change{at(n, 4, next): stamp(6, ref(7, 9)), 3: descriptor(pending, ref(7, 9), 1)}, change{1: ref(7, 9), 3: descriptor(0, ref(7, 9), 1)}, 5},

		{"a great version", change{1: ref(4, 1<<34-1), at(n, 4, next): stamp(1<<34-1, behind)}, done, 5},
		{"a version that next cannot have", change{1: ref(4, 1<<34+6)}, nil, 2},
		{"the greatest version", change{1: ref(4, 1<<54-1), at(n, 4, next): stamp(1<<34-1, behind)}, nil, 2},
	} {
		words := queueWith(n, k, begin)
		for a, w := range q.begin {
			words[a] = w
		}
		check(t, q.name, finish.Tail, n, k, words, q.changed, q.steps)
	}
}

// The queue of the tests of the head: thread 1 waits to take from the node 4,
// behind which is the node 5, with the value 70.
const (
	headThreads = 2
	headPlaces  = 3
	first       = 4 + 6<<10
	behindFirst = 5 + 9<<10
	waitsToTake = pending + takes + 4*first + 7<<32
)

// headField is the address of a field of a node of this queue.
func headField(i, field int) int {
	return at(headThreads, i, field)
}

// headCase is a way that finishing at the head can go.
type headCase struct {
	name    string
	begin   change // beside the words of the queue
	changed change
	steps   int
}

// check checks what finishing at the head makes of the queue.
func (q headCase) check(t *testing.T) {
	t.Helper()
	words := queueWith(headThreads, headPlaces, change{
		0: first, headField(4, next): stamp(6, behindFirst), headField(4, taker): stamp(6, 2), headField(4, mark): 13,
		3: waitsToTake, headField(5, value): 9<<32 + 70,
	})
	for a, w := range q.begin {
		words[a] = w
	}
	check(t, q.name, finish.Head, headThreads, headPlaces, words, q.changed, q.steps)
}

// 21.1: finishing at the head completes an operation that takes.
func TestHeadCompletes(t *testing.T) {
	released := headField(4, mark)
	done := change{0: behindFirst, 3: descriptor(takes, 71, 7), released: 12}
	greatest := change{0: behindFirst, 3: descriptor(takes, 1<<24, 7), released: 12}
	for _, q := range []headCase{
		{"completes, moves, and releases", nil, done, 8},
		{"whatever the tail is", change{1: top}, done, 8},
		{"the value 0", change{headField(5, value): 9 << 32}, change{0: behindFirst, 3: descriptor(takes, 1, 7), released: 12}, 8},
		{"the greatest value", change{headField(5, value): 9<<32 + 1<<24 - 1}, greatest, 8},
		{"the value modulo 2^24", change{headField(5, value): 9<<32 + 1<<24 + 70}, done, 8},
		{"the value of another version", change{headField(5, value): top}, greatest, 8},
		{"the node 1 behind", change{headField(4, next): stamp(6, ref(1, 3)), headField(1, value): 4}, change{0: ref(1, 3), 3: descriptor(takes, 5, 7), released: 12}, 8},
		{"the last node behind", change{headField(4, next): stamp(6, ref(7, 3)), headField(7, value): 4}, change{0: ref(7, 3), 3: descriptor(takes, 5, 7), released: 12}, 8},
		{"thread 0", change{headField(4, taker): stamp(6, 1), 2: waitsToTake}, change{0: behindFirst, 2: descriptor(takes, 71, 7), released: 12}, 8},
		{"another mark", change{released: 15}, change{0: behindFirst, 3: descriptor(takes, 71, 7)}, 8},
		{"a mark that is not allocated", change{released: 12}, change{0: behindFirst, 3: descriptor(takes, 71, 7)}, 8},
		{"a head that stays", change{headField(4, next): stamp(6, first), headField(4, value): 2}, change{3: descriptor(takes, 3, 7), released: 12}, 8},
	} {
		q.check(t)
	}
}

// 21.1: finishing at the head moves it, but has no operation to complete.
func TestHeadMoves(t *testing.T) {
	moved := change{0: behindFirst, headField(4, mark): 12}
	// With this version a reference is too great for a load, so that no
	// descriptor is that of one that takes from the node.
	const v = 1<<34 - 1
	great := change{
		0: ref(4, v), headField(4, next): stamp(v, behindFirst), headField(4, taker): stamp(v, 2), headField(4, mark): 2*v + 1,
		3: descriptor(pending+takes, ref(4, v)%(1<<30), 7),
	}
	for _, q := range []headCase{
		{"not pending", change{3: descriptor(takes, first, 7)}, moved, 6},
		{"puts", change{3: descriptor(pending, first, 7)}, moved, 6},
		{"another node", change{3: descriptor(pending+takes, ref(3, 6), 7)}, moved, 6},
		{"another version of the node", change{3: descriptor(pending+takes, ref(4, 5), 7)}, moved, 6},
		{"another thread", change{3: 0, 2: waitsToTake}, moved, 6},
		{"a great version", great, change{0: behindFirst, headField(4, mark): 2 * v}, 6},

		{"thread 0 takes directly", change{headField(4, taker): stamp(6, 33), 2: waitsToTake}, moved, 5},
		{"thread 1 takes directly", change{headField(4, taker): stamp(6, 34)}, moved, 5},
		{"a taker that is no thread", change{headField(4, taker): stamp(6, 3)}, moved, 5},
		{"the greatest taker", change{headField(4, taker): stamp(6, 1<<30-1)}, moved, 5},
	} {
		q.check(t)
	}
}

// 21.1: finishing at the head finds nothing to do.
func TestHeadStays(t *testing.T) {
	for _, q := range []headCase{
		{"the head refers to no node", change{0: 0}, nil, 1},
		{"the head refers to the node 0", change{0: ref(0, 6)}, nil, 1},
		{"the head refers to the node 8", change{0: ref(8, 6)}, nil, 1},
		{"the head refers to the node 1023", change{0: top}, nil, 1},

		{"next has an older version", change{headField(4, next): stamp(5, behindFirst)}, nil, 2},
		{"next has a newer version", change{headField(4, next): stamp(7, behindFirst)}, nil, 2},
		{"nothing behind", change{headField(4, next): stamp(6, 0)}, nil, 2},
		{"the node 0 behind", change{headField(4, next): stamp(6, ref(0, 9))}, nil, 2},
		{"the node 8 behind", change{headField(4, next): stamp(6, ref(8, 9))}, nil, 2},
		{"the node 1023 behind", change{headField(4, next): stamp(6, 1<<30-1)}, nil, 2},
		{"a version that next cannot have", change{0: ref(4, 1<<34+6)}, nil, 2},
		{"the greatest version", change{0: ref(4, 1<<54-1), headField(4, next): stamp(1<<34-1, behindFirst)}, nil, 2},

		{"the taker has another version", change{headField(4, taker): stamp(5, 2)}, nil, 3},
		{"nobody takes", change{headField(4, taker): stamp(6, 0)}, nil, 3},
	} {
		q.check(t)
	}
}

// 21.1: the error of a queue that does not exist comes before that of the
// number of words; with an error there are no other results (R2).
func TestErrors(t *testing.T) {
	right := make([]uint64, 2070)
	for _, f := range []finishing{finish.Tail, finish.Head} {
		for _, q := range []struct {
			n, k, words int
			want        api.Errno
		}{
			{0, 1, 11, api.ErrRange},
			{17, 1, 91, api.ErrRange},
			{-1, 1, 0, api.ErrRange},
			{math.MaxInt, 1, 11, api.ErrRange},
			{math.MinInt, 1, 11, api.ErrRange},
			{1, 0, 7, api.ErrRange},
			{1, 33, 139, api.ErrRange},
			{1, -1, 3, api.ErrRange},
			{1, math.MaxInt, 11, api.ErrRange},
			{1, math.MinInt, 0, api.ErrRange},
			{0, 0, 0, api.ErrRange},
			{1, 1, 0, api.ErrArg},
			{1, 1, 10, api.ErrArg},
			{1, 1, 12, api.ErrArg},
			{1, 1, 11, api.OK},
			{2, 3, 31, api.ErrArg},
			{2, 3, 32, api.OK},
			{3, 2, 32, api.ErrArg},
			{16, 32, 2069, api.ErrArg},
			{16, 32, 2070, api.OK},
		} {
			l, steps, e := f(q.n, q.k, right[:q.words])
			if e != q.want || e != api.OK && (len(l) != 0 || steps != 0) || e == api.OK && (len(l) != q.words || steps != 1) {
				t.Errorf("%v: %d words, %d, %v", q, len(l), steps, e)
			}
		}
		if l, steps, e := f(1, 1, nil); e != api.ErrArg || len(l) != 0 || steps != 0 {
			t.Error(l, steps, e)
		}
		if l, steps, e := f(1, 1, make([]uint64, api.MaxWords+1)); e != api.ErrArg || len(l) != 0 || steps != 0 {
			t.Error(l, steps, e)
		}
	}
}

// R4: the arguments stay what they are, with their spare capacity, and the
// result is new memory.
func TestWordsAlone(t *testing.T) {
	for _, f := range []finishing{finish.Tail, finish.Head} {
		words := append(make([]uint64, 0, 20), queueWith(1, 1, change{0: 1, 1: 1, at(1, 1, next): 1026, at(1, 1, taker): 33})...)
		before := slices.Clone(words[:20])
		l, _, _ := f(1, 1, words)
		if !slices.Equal(words[:20], before) || slices.Equal(l, words) {
			t.Error("the arguments changed, or nothing did:", words, l)
		}
		l[5] = 99
		if other, _, _ := f(1, 1, words); words[5] != 0 || other[5] != 0 {
			t.Error("a result shares memory:", words, other)
		}
	}
}

// 21.1 to 21.3: queues of all sizes with many words that look like those of a
// queue, and some that do not.
func TestManyWords(t *testing.T) {
	tails, heads := map[int]int{}, map[int]int{}
	for seed := range 60000 {
		number := trial.Numbers(uint64(seed))
		n, k := 1+number(api.MaxThreads), 1+number(32)
		if seed%4 > 0 {
			n, k = 1+number(2), 1+number(2)
		}
		words := likely(n, k, number)
		tails[compare(t, n, k, words, finish.Tail, tailByHand)]++
		heads[compare(t, n, k, words, finish.Head, headByHand)]++
		if t.Failed() {
			t.Fatal(seed)
		}
	}
	for _, q := range []struct {
		counts map[int]int
		steps  []int
	}{{tails, []int{1, 2, 4, 5}}, {heads, []int{1, 2, 3, 5, 6, 8}}} {
		for _, s := range q.steps {
			if q.counts[s] < 100 {
				t.Error("too few of a kind:", q.counts)
			}
		}
		if len(q.counts) != len(q.steps) {
			t.Error("other numbers of accesses:", q.counts)
		}
	}
}

// likely is words that have mostly to do with each other: there are few
// versions, and few nodes to which words refer.
func likely(n, k int, number func(below int) int) []uint64 {
	words := make([]uint64, node.Size(n, k))
	some := func() uint64 { return ref(uint64(number(min(n*k, 3)+3)), uint64(number(2))) }
	words[0], words[1] = some(), some()
	first := int(words[0] % 1024)
	for i := range n {
		words[2+i] = descriptor(uint64(number(4)), some(), uint64(number(3)))
		if number(2) == 0 {
			words[2+i] = descriptor(pending+takes, words[0], uint64(number(3)))
		}
	}
	for i := 1; i <= 1+n*k; i++ {
		v := uint64(number(2))
		if i == first && number(4) > 0 {
			v = words[0] >> 10
		}
		words[at(n, i, next)] = stamp(v, some())
		words[at(n, i, taker)] = stamp(v, uint64(number(n+3)))
		words[at(n, i, value)] = v<<32 + uint64(number(1<<30))
		words[at(n, i, mark)] = 2*v + 1 - uint64(number(4)/3)
	}
	if number(8) == 0 {
		words[number(len(words))] += uint64(number(1<<30)) << number(34)
	}
	return words
}

// compare compares what finishing makes of words with what is made by hand,
// checks what it may change (21.2, 21.3), and returns the number of accesses.
func compare(t *testing.T, n, k int, words []uint64, f finishing, byHand func(n, k int, a memory)) int {
	t.Helper()
	hand := &accesses{words: slices.Clone(words)}
	byHand(n, k, hand)
	l, steps, e := f(n, k, words)
	if e != api.OK || steps != hand.made || !slices.Equal(l, hand.words) {
		t.Errorf("%d threads, %d places, %v: %v, %d, %v; want %v", n, k, words, l, steps, e, hand)
		return 0
	}
	var ends, descriptors, marks, others int
	for i, w := range l {
		switch {
		case w == words[i]:
		case i < 2:
			ends++
		case i < 2+n:
			descriptors++
			if w%2 == 1 || words[i]%2 == 0 {
				t.Errorf("a descriptor %x became %x", words[i], w)
			}
		case (i-2-n)%4 == mark:
			marks++
		default:
			others++
		}
	}
	if ends > 1 || descriptors > 1 || marks > 1 || others > 0 || steps > 8 {
		t.Errorf("%d threads, %d places, %v: %v, %d", n, k, words, l, steps)
	}
	return steps
}

// accesses makes accesses to words.
type accesses struct {
	words []uint64
	made  int
}

// read is R.
func (a *accesses) read(at int) uint64 {
	a.made++
	return a.words[at]
}

// swap is C.
func (a *accesses) swap(at int, old, fresh uint64) bool {
	a.made++
	if a.words[at] != old {
		return false
	}
	a.words[at] = fresh
	return true
}

// memory is what finishing by hand makes its accesses to.
type memory interface {
	read(at int) uint64
	swap(at int, old, fresh uint64) bool
}

// tailByHand finishes at the tail as the chapter tells it.
func tailByHand(n, k int, a memory) {
	last := a.read(1)
	i := last % 1024
	if i < 1 || i > uint64(1+n*k) {
		return
	}
	w := a.read(at(n, int(i), next))
	x := w % (1 << 30)
	j := x % 1024
	if w>>30 != last>>10 || j < 2 || j > uint64(1+n*k) {
		return
	}
	owner := (int(j) - 2) / k
	d := a.read(2 + owner)
	if d%4 == pending && d>>2%(1<<30) == x {
		a.swap(2+owner, d, d-pending)
	}
	a.swap(1, last, x)
}

// headByHand finishes at the head as the chapter tells it.
func headByHand(n, k int, a memory) {
	first := a.read(0)
	i := first % 1024
	if i < 1 || i > uint64(1+n*k) {
		return
	}
	w := a.read(at(n, int(i), next))
	x := w % (1 << 30)
	j := x % 1024
	if w>>30 != first>>10 || j < 1 || j > uint64(1+n*k) {
		return
	}
	z := a.read(at(n, int(i), taker))
	number := z % (1 << 30)
	if z>>30 != first>>10 || number == 0 {
		return
	}
	if number <= uint64(n) {
		d := a.read(1 + int(number))
		if d%4 == pending+takes && d>>2%(1<<30) == first {
			y := a.read(at(n, int(j), value))
			a.swap(1+int(number), d, d>>32<<32+(y%(1<<24)+1)<<2+takes)
		}
	}
	if a.swap(0, first, x) {
		a.swap(at(n, int(i), mark), 2*(first>>10)+1, 2*(first>>10))
	}
}
