package table_test

import (
	"math"
	"slices"
	"testing"

	"roundelay/adder"
	"roundelay/api"
	"roundelay/cons"
	"roundelay/loom"
	"roundelay/maxreg"
	"roundelay/multi"
	"roundelay/pin"
	"roundelay/queue"
	"roundelay/snap"
	"roundelay/table"
	"roundelay/tally"
	"roundelay/trial"
	"roundelay/univ"
)

// within is what a number must be for an object: between two numbers.
type within struct {
	least, most int
}

// has tells whether a number is one of these.
func (w within) has(x int) bool {
	return w.least <= x && x <= w.most
}

// described is a line of the chapter's table.
type described struct {
	kind, p, q within
	words      func(n, p, q int) int
	kinds      int
}

// lines are the chapter's table; the universal object has a line for each number
// of operations that its types have.
func lines() []described {
	only := func(kind int) within { return within{kind, kind} }
	arbitrary := within{math.MinInt, math.MaxInt}
	return []described{
		{only(0), within{1, 64}, arbitrary, func(_, p, _ int) int { return p }, 4},
		{only(1), arbitrary, arbitrary, func(_, _, _ int) int { return 1 }, 2},
		{only(2), arbitrary, arbitrary, func(n, _, _ int) int { return n }, 2},
		{only(3), arbitrary, arbitrary, func(_, _, _ int) int { return 1 }, 3},
		{only(4), within{1, 12}, arbitrary, func(_, p, _ int) int { return 1<<p - 1 }, 2},
		{only(5), within{1, 64}, arbitrary, func(n, p, _ int) int { return n + n*p*(n+1) }, 2},
		{only(6), within{1, 16}, within{1, 64}, func(n, p, q int) int { return p + n*q*(p+1) }, 2},
		{only(7), within{0, 1}, within{1, 256}, func(n, _, q int) int { return n + q }, 2},
		{only(7), within{2, 4}, within{1, 256}, func(n, _, q int) int { return n + q }, 3},
		{only(7), within{5, 7}, within{1, 256}, func(n, _, q int) int { return n + q }, 2},
		{only(8), within{1, 32}, within{0, 3}, func(n, p, _ int) int { return 6 + n + 4*n*p }, 2},
		{only(9), within{1, 8}, arbitrary, func(n, p, _ int) int { return 1 + (n+1)*(p+1) }, 2},
	}
}

// wantSize is what the chapter's table says.
func wantSize(n int, s api.Spec) (int, api.Errno) {
	if n < 1 || n > 16 {
		return 0, api.ErrArg
	}
	if s.Kind < 0 || s.Kind > 9 {
		return 0, api.ErrKind
	}
	for _, l := range lines() {
		if l.kind.has(s.Kind) && l.p.has(s.P) && l.q.has(s.Q) {
			return l.words(n, s.P, s.Q), api.OK
		}
	}
	return 0, api.ErrRange
}

// numbers are those about the ends of all ranges.
func numbers() []int {
	return []int{
		math.MinInt, -1 << 32, -1, 0, 1, 2, 3, 4, 7, 8, 9, 11, 12, 13, 15, 16, 17, 31, 32, 33, 63, 64, 65,
		255, 256, 257, 1<<32 + 1, math.MaxInt,
	}
}

// 23.1: all Kinds, for all threads, with numbers about the ends of their ranges.
func TestSize(t *testing.T) {
	for n := -1; n <= 18; n++ {
		for kind := -1; kind <= 11; kind++ {
			for _, p := range numbers() {
				for _, q := range numbers() {
					s := api.Spec{Kind: kind, P: p, Q: q}
					want, wrong := wantSize(n, s)
					if size, e := table.Size(n, s); size != want || e != wrong {
						t.Fatalf("Size(%d, %v): %d, %v; want %d, %v", n, s, size, e, want, wrong)
					}
				}
			}
		}
	}
}

// 23.1: some sizes as plain numbers.
func TestSizes(t *testing.T) {
	for _, x := range []struct {
		n    int
		s    api.Spec
		want int
	}{
		{1, api.Spec{Kind: api.Cell, P: 64, Q: -1}, 64},
		{16, api.Spec{Kind: api.Cons, P: -5, Q: 9}, 1},
		{16, api.Spec{Kind: api.Tally}, 16},
		{16, api.Spec{Kind: api.Adder}, 1},
		{16, api.Spec{Kind: api.Max, P: 12}, 4095},
		{16, api.Spec{Kind: api.Snap, P: 64}, 17424},
		{16, api.Spec{Kind: api.Multi, P: 16, Q: 64}, 17424},
		{2, api.Spec{Kind: api.Multi, P: 3, Q: 2}, 19},
		{16, api.Spec{Kind: api.Univ, P: 7, Q: 256}, 272},
		{2, api.Spec{Kind: api.Univ, P: 0, Q: 1}, 3},
		{2, api.Spec{Kind: api.Queue, P: 1}, 16},
		{16, api.Spec{Kind: api.Queue, P: 32, Q: 3}, 2070},
		{16, api.Spec{Kind: api.Pin, P: 8}, 154},
		{1, api.Spec{Kind: api.Pin, P: 1}, 5},
	} {
		if size, e := table.Size(x.n, x.s); size != x.want || e != api.OK {
			t.Errorf("Size(%d, %v): %d, %v; want %d", x.n, x.s, size, e, x.want)
		}
	}
}

// 23.1: if several things are wrong, the threads are told first, then the Kind,
// for far numbers, too.
func TestSizeErrors(t *testing.T) {
	for _, n := range []int{math.MinInt, -1, 0, 17, math.MaxInt} {
		for _, s := range []api.Spec{{}, {Kind: api.Cons}, {Kind: 10}, {Kind: math.MinInt}} {
			if size, e := table.Size(n, s); size != 0 || e != api.ErrArg {
				t.Errorf("Size(%d, %v): %d, %v", n, s, size, e)
			}
		}
	}
	for _, kind := range []int{math.MinInt, -1, 10, 256, 1 << 32, math.MaxInt} {
		if size, e := table.Size(1, api.Spec{Kind: kind}); size != 0 || e != api.ErrKind {
			t.Errorf("Kind %d: %d, %v", kind, size, e)
		}
	}
}

// 23.1: how many operations there are depends on the Kind alone, but for a
// universal object on its type.
func TestKinds(t *testing.T) {
	for kind := -1; kind <= 11; kind++ {
		for _, p := range numbers() {
			want := 0
			for _, l := range lines() {
				if l.kind.has(kind) && (kind != api.Univ || l.p.has(p)) {
					want = l.kinds
				}
			}
			for _, q := range numbers() {
				s := api.Spec{Kind: kind, P: p, Q: q}
				if kinds := table.Kinds(s); kinds != want {
					t.Fatalf("Kinds(%v): %d; want %d", s, kinds, want)
				}
			}
		}
	}
	for _, kind := range []int{math.MinInt, 1 << 32, math.MaxInt} {
		if kinds := table.Kinds(api.Spec{Kind: kind, P: 1, Q: 1}); kinds != 0 {
			t.Errorf("Kind %d: %d", kind, kinds)
		}
	}
}

// each returns an object of each Kind, and of each type of universal objects.
func each() []api.Spec {
	l := []api.Spec{
		{Kind: api.Cell, P: 3}, {Kind: api.Cons}, {Kind: api.Tally}, {Kind: api.Adder}, {Kind: api.Max, P: 3},
		{Kind: api.Snap, P: 4}, {Kind: api.Multi, P: 2, Q: 4}, {Kind: api.Queue, P: 2, Q: 1}, {Kind: api.Pin, P: 2},
	}
	for typ := range 8 {
		l = append(l, api.Spec{Kind: api.Univ, P: typ, Q: 9})
	}
	return l
}

// objects returns objects as they are played.
func objects(t *testing.T, n int, specs []api.Spec) []loom.Object {
	t.Helper()
	l, e := table.Objects(n, specs)
	if e != api.OK || len(l) != len(specs) {
		t.Fatalf("Objects(%d, %v): %v, %v", n, specs, l, e)
	}
	return l
}

// play returns the play of objects, which must have no error.
func play(t *testing.T, n int, specs []api.Spec, calls []api.Call, picks []int) api.Report {
	t.Helper()
	r, e := loom.Play(n, calls, picks, objects(t, n, specs)...)
	if e != api.OK {
		t.Fatalf("the play of %v: %v", specs, e)
	}
	return r
}

// 23.1: in plays, the objects have just these operations.
func TestOperations(t *testing.T) {
	for _, s := range each() {
		for kind := -1; kind <= 5; kind++ {
			r := play(t, 1, []api.Spec{s}, []api.Call{{Kind: kind}}, make([]int, 50))
			exists := kind >= 0 && kind < table.Kinds(s)
			if x := r.Events[0]; x.Resp == 0 || (x.Answer.Err != api.ErrKind) != exists {
				t.Errorf("%v, Kind %d: %v", s, kind, x)
			}
		}
	}
}

// isLaid tells whether Lay returns these addresses, and this number of words.
func isLaid(n int, specs []api.Spec, begins []int, words int) bool {
	l, size, e := table.Lay(n, specs)
	return e == api.OK && size == words && slices.Equal(l, begins)
}

// 23.2: the example of the chapter, an object alone, one several times, and none.
func TestLay(t *testing.T) {
	one := api.Spec{Kind: api.Queue, P: 1}
	if !isLaid(2, []api.Spec{{Kind: api.Tally}, one}, []int{0, 2}, 18) {
		t.Error(table.Lay(2, []api.Spec{{Kind: api.Tally}, one}))
	}
	if !isLaid(2, []api.Spec{one}, []int{0}, 16) {
		t.Error(table.Lay(2, []api.Spec{one}))
	}
	if !isLaid(1, slices.Repeat([]api.Spec{one}, 8), []int{0, 11, 22, 33, 44, 55, 66, 77}, 88) {
		t.Error(table.Lay(1, slices.Repeat([]api.Spec{one}, 8)))
	}
	if !isLaid(16, nil, nil, 0) || !isLaid(1, []api.Spec{}, nil, 0) {
		t.Error("no objects")
	}
}

// 23.2: each object begins where the preceding one ends, in lists of any objects.
func TestLayInOrder(t *testing.T) {
	number := trial.Numbers(23)
	all := each()
	for range 2000 {
		n := 1 + number(16)
		var specs []api.Spec
		var begins []int
		words := 0
		for range number(9) {
			s := all[number(len(all))]
			size, _ := wantSize(n, s)
			specs = append(specs, s)
			begins = append(begins, words)
			words += size
		}
		given := slices.Clone(specs)
		if !isLaid(n, specs, begins, words) || !slices.Equal(specs, given) {
			l, size, e := table.Lay(n, specs)
			t.Fatalf("Lay(%d, %v): %v, %d, %v; want %v, %d", n, given, l, size, e, begins, words)
		}
	}
}

// full returns objects that have so many words for 16 threads as there can be,
// and some more.
func full(more int) []api.Spec {
	big := api.Spec{Kind: api.Snap, P: 64}
	most := api.Spec{Kind: api.Max, P: 12}
	return []api.Spec{big, big, big, most, most, most, {Kind: api.Snap, P: 3}, {Kind: api.Univ, Q: 131 + more}}
}

// wrongLists are objects that Lay does not accept.
func wrongLists() []struct {
	n     int
	specs []api.Spec
	want  api.Errno
} {
	good := api.Spec{Kind: api.Cons}
	ranged := api.Spec{Kind: api.Max, P: 13}
	kindless := api.Spec{Kind: 10, P: 1, Q: 1}
	big := api.Spec{Kind: api.Snap, P: 64}
	return []struct {
		n     int
		specs []api.Spec
		want  api.Errno
	}{
		{0, nil, api.ErrArg},
		{17, []api.Spec{good}, api.ErrArg},
		{-1, slices.Repeat([]api.Spec{kindless}, 9), api.ErrArg},
		{math.MinInt, []api.Spec{good}, api.ErrArg},
		{math.MaxInt, full(1), api.ErrArg},
		{1, slices.Repeat([]api.Spec{good}, 9), api.ErrLong},
		{1, slices.Repeat([]api.Spec{kindless}, 9), api.ErrLong},
		{1, slices.Repeat([]api.Spec{ranged}, 100), api.ErrLong},
		{1, []api.Spec{good, ranged, kindless}, api.ErrRange},
		{1, []api.Spec{good, kindless, ranged}, api.ErrKind},
		{1, slices.Concat(slices.Repeat([]api.Spec{good}, 7), []api.Spec{{Kind: -1}}), api.ErrKind},
		{16, []api.Spec{big, big, big, big}, api.ErrLong},
		{16, []api.Spec{big, big, big, big, ranged}, api.ErrRange},
		{16, []api.Spec{big, big, big, big, kindless}, api.ErrKind},
		{16, full(1), api.ErrLong},
	}
}

// 23.2: wrong lists, and the greatest one that is not wrong.
func TestLayErrors(t *testing.T) {
	for _, x := range wrongLists() {
		if l, size, e := table.Lay(x.n, x.specs); l != nil || size != 0 || e != x.want {
			t.Errorf("Lay(%d, %v): %v, %d, %v; want %v", x.n, x.specs, l, size, e, x.want)
		}
	}
	begins := []int{0, 17424, 34848, 52272, 56367, 60462, 64557, 65389}
	if !isLaid(16, full(0), begins, 65536) {
		t.Error(table.Lay(16, full(0)))
	}
	if !isLaid(15, full(1), []int{0, 15375, 30750, 46125, 50220, 54315, 58410, 59145}, 59292) {
		t.Error(table.Lay(15, full(1)))
	}
}

// 23.2: the same lists are wrong for Words, and for objects that are played.
func TestWordsErrors(t *testing.T) {
	for _, x := range wrongLists() {
		if w, e := table.Words(x.n, x.specs); w != nil || e != x.want {
			t.Errorf("Words(%d, %v): %v, %v; want %v", x.n, x.specs, w, e, x.want)
		}
		if l, e := table.Objects(x.n, x.specs); l != nil || e != x.want {
			t.Errorf("Objects(%d, %v): %v, %v; want %v", x.n, x.specs, l, e, x.want)
		}
	}
	if w, e := table.Words(16, full(0)); len(w) != 65536 || slices.Max(w) != 0 || e != api.OK {
		t.Error(len(w), e)
	}
	if w, e := table.Words(1, nil); len(w) != 0 || e != api.OK {
		t.Error(w, e)
	}
}

// wantWords is the initial words that the chapter describes.
func wantWords(n int, specs []api.Spec) []uint64 {
	var words []uint64
	for _, s := range specs {
		size, _ := wantSize(n, s)
		b := len(words)
		words = append(words, make([]uint64, size)...)
		if s.Kind == 8 {
			words[b], words[b+1], words[b+n+5] = 1, 1, 1
		}
	}
	return words
}

// 23.2: words of queues and of other objects, which are new each time.
func TestWords(t *testing.T) {
	if w, e := table.Words(1, []api.Spec{{Kind: api.Adder}, {Kind: api.Queue, P: 1}}); e != api.OK || !slices.Equal(w, []uint64{0, 1, 1, 0, 0, 0, 0, 1, 0, 0, 0, 0}) {
		t.Error(w, e)
	}
	number := trial.Numbers(24)
	all := append(each(), slices.Repeat([]api.Spec{{Kind: api.Queue, P: 32}, {Kind: api.Queue, P: 1, Q: 3}}, 6)...)
	for range 500 {
		n := 1 + number(16)
		var specs []api.Spec
		for range number(9) {
			specs = append(specs, all[number(len(all))])
		}
		for range 2 {
			w, e := table.Words(n, specs)
			if want := wantWords(n, specs); e != api.OK || !slices.Equal(w, want) {
				t.Fatalf("Words(%d, %v): %v, %v; want %v", n, specs, w, e, want)
			}
			for i := range w {
				w[i] = 7
			}
		}
	}
}

// callsOf makes calls of an object that has this number, by all threads.
func callsOf(number func(below int) int, n, obj, kinds int) []api.Call {
	var calls []api.Call
	for range 4 * n {
		calls = append(calls, api.Call{
			Thread: number(n),
			Obj:    obj,
			Kind:   number(kinds),
			A:      uint64(number(3)),
			B:      uint64(1 + number(3)),
			C:      uint64(1 + number(3)),
		})
	}
	return calls
}

// among changes the calls of the only object to those of one among others.
func among(calls []api.Call, obj int) []api.Call {
	l := slices.Clone(calls)
	for i := range l {
		l[i].Obj = obj
	}
	return l
}

// byItself returns the play of an object that its own package plays.
func byItself(n int, s api.Spec, calls []api.Call, picks []int) (api.Report, api.Errno) {
	switch s.Kind {
	case api.Cell:
		return loom.Cells(n, s.P, calls, picks)
	case api.Cons:
		return cons.Play(n, calls, picks)
	case api.Tally:
		return tally.Play(n, calls, picks)
	case api.Adder:
		return adder.Play(n, calls, picks)
	case api.Max:
		return maxreg.Play(n, s.P, calls, picks)
	case api.Snap:
		return snap.Play(n, s.P, calls, picks)
	case api.Multi:
		return multi.Play(n, s.P, s.Q, calls, picks)
	case api.Univ:
		return univ.Play(n, s.P, s.Q, calls, picks)
	case api.Queue:
		return queue.Play(n, s.P, s.Q, calls, picks)
	default:
		return pin.Play(n, s.P, calls, picks)
	}
}

// 23.1: the objects are those of the packages that the chapter's table names.
func TestObjects(t *testing.T) {
	number := trial.Numbers(31)
	attempts := []api.Spec{{Kind: api.Queue, P: 2}, {Kind: api.Queue, P: 2, Q: 2}, {Kind: api.Queue, P: 3, Q: 3}}
	for _, s := range append(each(), attempts...) {
		for range 20 {
			n := 1 + number(3)
			calls := callsOf(number, n, 0, table.Kinds(s))
			var picks []int
			for range 20 * len(calls) {
				picks = append(picks, number(n))
			}
			want, e := byItself(n, s, calls, picks)
			if e != api.OK {
				t.Fatalf("%v: %v", s, e)
			}
			if r := play(t, n, []api.Spec{s}, calls, picks); !trial.SameReport(r, want) {
				t.Fatalf("%v: %v; want %v", s, r, want)
			}
		}
	}
}

// 23.3: when an object among others is used, no word of another one changes, and
// its events are the same as if it were alone.
func TestOwnWords(t *testing.T) {
	number := trial.Numbers(25)
	for _, s := range each() {
		for range 30 {
			n := 1 + number(4)
			calls := callsOf(number, n, 0, table.Kinds(s))
			var picks []int
			for range 40 * len(calls) {
				picks = append(picks, number(n))
			}
			alone := play(t, n, []api.Spec{s}, calls, picks)
			all := each()
			specs := []api.Spec{all[number(len(all))], all[number(len(all))], s, all[number(len(all))], all[number(len(all))]}
			r := play(t, n, specs, among(calls, 2), picks)
			if !trial.SameEvents(r.Events, alone.Events) || r.Counts != alone.Counts {
				t.Fatalf("%v: %v; want %v", specs, r, alone)
			}
			begins, _, _ := table.Lay(n, specs)
			want := wantWords(n, specs)
			copy(want[begins[2]:begins[3]], r.Words[begins[2]:begins[3]])
			if !slices.Equal(r.Words, want) {
				t.Fatalf("%v, %v: %v; want %v", specs, calls, r.Words, want)
			}
		}
	}
}

// 23.3: the words of an object remain what they are when others are used after it.
func TestOthersWords(t *testing.T) {
	number := trial.Numbers(26)
	all := each()
	for range 300 {
		n := 1 + number(3)
		specs := []api.Spec{all[number(len(all))], all[number(len(all))], all[number(len(all))]}
		first := callsOf(number, n, 1, table.Kinds(specs[1]))
		further := slices.Concat(first, callsOf(number, n, 0, table.Kinds(specs[0])), callsOf(number, n, 2, table.Kinds(specs[2])))
		c, ok := trial.NewCourse(n, further, objects(t, n, specs)...)
		if !ok {
			t.Fatal("no course")
		}
		for _, call := range first {
			c.Finish(call.Thread)
		}
		before := play(t, n, specs, further, c.Picks)
		for p := range n {
			for c.Finish(p) {
			}
		}
		after := play(t, n, specs, further, c.Picks)
		begins, _, _ := table.Lay(n, specs)
		if !slices.Equal(before.Words[begins[1]:begins[2]], after.Words[begins[1]:begins[2]]) {
			t.Fatalf("%v: %v; then %v", specs, before.Words, after.Words)
		}
		if !trial.SameEvents(before.Events, after.Events[:len(before.Events)]) {
			t.Fatalf("%v: %v; then %v", specs, before.Events, after.Events)
		}
	}
}
