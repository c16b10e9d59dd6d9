package model_test

import (
	"slices"
	"testing"

	"roundelay/api"
	"roundelay/model"
	"roundelay/seq"
	"roundelay/trial"
)

// application is an operation on a state, and what comes of it: after does not
// matter if the answer is an error.
type application struct {
	state []uint64
	c     api.Call
	after []uint64
	want  api.Answer
}

// val is an answer with a number, and fail is one with an error.
func val(v uint64) api.Answer     { return api.Answer{Val: v} }
func fail(e api.Errno) api.Answer { return api.Answer{Err: e} }

// check checks applications to an object for 3 threads, and that just their answers
// are legal. With an error the state remains what it is.
func check(t *testing.T, s api.Spec, l []application) {
	t.Helper()
	for _, q := range l {
		want := q.after
		if q.want.Err != api.OK {
			want = q.state
		}
		after, a := model.Apply(3, s, q.state, q.c)
		if !slices.Equal(after, want) || !trial.SameAnswer(a, q.want) {
			t.Errorf("%v: %v in %v: %v, %v; want %v, %v", s, q.c, q.state, after, a, want, q.want)
		}
		if after, ok := model.Legal(3, s, q.state, q.c, q.want); !ok || !slices.Equal(after, want) {
			t.Errorf("%v: %v in %v, %v: %v, %v; want %v", s, q.c, q.state, q.want, after, ok, want)
		}
		checkOthers(t, s, q)
	}
}

// checkOthers checks that answers that differ in anything are not legal, except that
// a queue may be full.
func checkOthers(t *testing.T, s api.Spec, q application) {
	t.Helper()
	for _, change := range []func(a *api.Answer){
		func(a *api.Answer) { a.Val++ },
		func(a *api.Answer) { a.Val ^= 1 << 63 },
		func(a *api.Answer) { a.Err++ },
		func(a *api.Answer) { a.Err = -1 },
		func(a *api.Answer) { a.List = append([]uint64{0}, a.List...) },
		func(a *api.Answer) { a.List = append(a.List, 0) },
		func(a *api.Answer) { a.Err, a.Val = api.ErrObj, 0 },
	} {
		a := q.want
		a.List = slices.Clone(a.List)
		change(&a)
		if after, ok := model.Legal(3, s, q.state, q.c, a); ok || !slices.Equal(after, q.state) {
			t.Errorf("%v: %v in %v, %v: %v, %v", s, q.c, q.state, a, after, ok)
		}
	}
}

// 27.2: cells, as in 6.2.
func TestCell(t *testing.T) {
	two := func(a, b uint64) []uint64 { return []uint64{a, b} }
	check(t, api.Spec{Kind: api.Cell, P: 2}, []application{
		{two(5, 6), api.Call{A: 1, B: 8, C: 9}, two(5, 6), val(6)},
		{two(top, 6), api.Call{Thread: 2}, two(top, 6), val(top)},
		{two(5, 6), api.Call{Kind: 1, A: 1, B: 8, C: 9}, two(5, 8), val(0)},
		{two(5, 6), api.Call{Kind: 1, B: top}, two(top, 6), val(0)},
		{two(5, 6), api.Call{Kind: 2, A: 1, B: 6, C: 9}, two(5, 9), val(1)},
		{two(5, 6), api.Call{Kind: 2, A: 1, B: 6, C: 6}, two(5, 6), val(1)},
		{two(5, 6), api.Call{Kind: 2, A: 1, B: 5, C: 9}, two(5, 6), val(0)},
		{two(5, 6), api.Call{Kind: 2, A: 0, B: 5, C: top}, two(top, 6), val(1)},
		{two(5, 6), api.Call{Kind: 3, A: 1, B: 7, C: 9}, two(5, 13), val(6)},
		{two(5, 6), api.Call{Kind: 3, A: 0, B: top}, two(4, 6), val(5)},
		{two(top, 6), api.Call{Kind: 3, A: 0, B: 1}, two(0, 6), val(top)},
	})
	for kind := range 4 {
		for _, at := range []uint64{2, 3, 64, 1 << 32, 1 << 63, top} {
			check(t, api.Spec{Kind: api.Cell, P: 2}, []application{{two(5, 6), api.Call{Kind: kind, A: at, B: 5}, nil, fail(api.ErrRange)}})
		}
	}
	last := make([]uint64, 64)
	last[63] = 4
	check(t, api.Spec{Kind: api.Cell, P: 64}, []application{{make([]uint64, 64), api.Call{Kind: 1, A: 63, B: 4}, last, val(0)}})
}

// 27.2: a cons.
func TestCons(t *testing.T) {
	check(t, api.Spec{Kind: api.Cons}, []application{
		{[]uint64{0}, api.Call{A: 5}, []uint64{6}, val(5)},
		{[]uint64{0}, api.Call{A: 0}, []uint64{1}, val(0)},
		{[]uint64{0}, api.Call{A: 1<<32 - 1}, []uint64{1 << 32}, val(1<<32 - 1)},
		{[]uint64{6}, api.Call{Thread: 1, A: 9}, []uint64{6}, val(5)},
		{[]uint64{top}, api.Call{A: 9}, []uint64{top}, val(top - 1)},
		{[]uint64{1}, api.Call{A: 9}, []uint64{1}, val(0)},
		{[]uint64{0}, api.Call{A: 1 << 32}, nil, fail(api.ErrRange)},
		{[]uint64{6}, api.Call{A: 1 << 32}, nil, fail(api.ErrRange)},
		{[]uint64{6}, api.Call{A: top}, nil, fail(api.ErrRange)},
		{[]uint64{0}, api.Call{Kind: 1, A: 5}, nil, fail(api.ErrEmpty)},
		{[]uint64{0}, api.Call{Kind: 1, A: top}, nil, fail(api.ErrEmpty)},
		{[]uint64{6}, api.Call{Kind: 1, A: top}, []uint64{6}, val(5)},
		{[]uint64{1}, api.Call{Kind: 1}, []uint64{1}, val(0)},
	})
}

// 27.2: a tally, an adder, which wrap around, and a max register.
func TestNumbers(t *testing.T) {
	check(t, api.Spec{Kind: api.Tally}, []application{
		{[]uint64{0}, api.Call{A: 7}, []uint64{1}, val(0)},
		{[]uint64{4}, api.Call{Thread: 2}, []uint64{5}, val(0)},
		{[]uint64{top}, api.Call{}, []uint64{0}, val(0)},
		{[]uint64{4}, api.Call{Kind: 1, A: 7}, []uint64{4}, val(4)},
		{[]uint64{top}, api.Call{Kind: 1}, []uint64{top}, val(top)},
	})
	check(t, api.Spec{Kind: api.Adder}, []application{
		{[]uint64{4}, api.Call{A: 3, B: 9}, []uint64{7}, val(4)},
		{[]uint64{4}, api.Call{A: top}, []uint64{3}, val(4)},
		{[]uint64{4}, api.Call{Kind: 1, A: 3}, []uint64{4}, val(4)},
		{[]uint64{4}, api.Call{Kind: 2, A: 3}, []uint64{5}, val(4)},
		{[]uint64{top}, api.Call{Kind: 2}, []uint64{0}, val(top)},
	})
	check(t, api.Spec{Kind: api.Max, P: 3}, []application{
		{[]uint64{0}, api.Call{A: 7}, []uint64{7}, val(0)},
		{[]uint64{4}, api.Call{A: 3}, []uint64{4}, val(0)},
		{[]uint64{4}, api.Call{A: 4}, []uint64{4}, val(0)},
		{[]uint64{4}, api.Call{A: 5}, []uint64{5}, val(0)},
		{[]uint64{9}, api.Call{A: 5}, []uint64{9}, val(0)},
		{[]uint64{4}, api.Call{A: 8}, nil, fail(api.ErrRange)},
		{[]uint64{9}, api.Call{A: 9}, nil, fail(api.ErrRange)},
		{[]uint64{4}, api.Call{A: top}, nil, fail(api.ErrRange)},
		{[]uint64{4}, api.Call{Kind: 1, A: top}, []uint64{4}, val(4)},
	})
	check(t, api.Spec{Kind: api.Max, P: 12}, []application{
		{[]uint64{0}, api.Call{A: 4095}, []uint64{4095}, val(0)},
		{[]uint64{0}, api.Call{A: 4096}, nil, fail(api.ErrRange)},
	})
}

// 27.2: a snapshot: a thread whose number of updates is that of its records, or
// above it, is full; this matters to no other thread.
func TestSnap(t *testing.T) {
	check(t, api.Spec{Kind: api.Snap, P: 2}, []application{
		{[]uint64{1, 2, 3, 0, 0, 0}, api.Call{A: 7, B: 8}, []uint64{7, 2, 3, 1, 0, 0}, val(0)},
		{[]uint64{1, 2, 3, 2, 1, 2}, api.Call{Thread: 1, A: top}, []uint64{1, top, 3, 2, 2, 2}, val(0)},
		{[]uint64{1, 2, 3, 2, 2, 1}, api.Call{Thread: 2, A: 0}, []uint64{1, 2, 0, 2, 2, 2}, val(0)},
		{[]uint64{1, 2, 3, 2, 0, 0}, api.Call{A: 7}, nil, fail(api.ErrFull)},
		{[]uint64{1, 2, 3, 0, 0, 2}, api.Call{Thread: 2, A: 7}, nil, fail(api.ErrFull)},
		{[]uint64{1, 2, 3, 0, 3, 0}, api.Call{Thread: 1, A: 7}, nil, fail(api.ErrFull)},
		{[]uint64{1, 2, 3, 0, top, 0}, api.Call{Thread: 1, A: 7}, nil, fail(api.ErrFull)},
		{[]uint64{1, 2, 3, 4, 5, 6}, api.Call{Thread: 1, Kind: 1, A: 7}, []uint64{1, 2, 3, 4, 5, 6}, api.Answer{List: []uint64{1, 2, 3}}},
	})
}

// 27.2: a multi-writer snapshot: a component that there is not comes before a thread
// that is full.
func TestMulti(t *testing.T) {
	check(t, api.Spec{Kind: api.Multi, P: 2, Q: 2}, []application{
		{[]uint64{1, 2, 0, 0, 0}, api.Call{A: 1, B: 8}, []uint64{1, 8, 1, 0, 0}, val(0)},
		{[]uint64{1, 2, 2, 1, 2}, api.Call{Thread: 1, B: top}, []uint64{top, 2, 2, 2, 2}, val(0)},
		{[]uint64{1, 2, 2, 0, 0}, api.Call{B: 8}, nil, fail(api.ErrFull)},
		{[]uint64{1, 2, 0, 0, 2}, api.Call{Thread: 2, A: 1, B: 8}, nil, fail(api.ErrFull)},
		{[]uint64{1, 2, 0, 0, top}, api.Call{Thread: 2, A: 1, B: 8}, nil, fail(api.ErrFull)},
		{[]uint64{1, 2, 0, 0, 0}, api.Call{A: 2}, nil, fail(api.ErrRange)},
		{[]uint64{1, 2, 2, 2, 2}, api.Call{A: 2}, nil, fail(api.ErrRange)},
		{[]uint64{1, 2, 2, 2, 2}, api.Call{A: top}, nil, fail(api.ErrRange)},
		{[]uint64{1, 2, 3, 4, 5}, api.Call{Thread: 1, Kind: 1, A: 9}, []uint64{1, 2, 3, 4, 5}, api.Answer{List: []uint64{1, 2}}},
	})
}

// 27.2: a universal object: a stack with 2 entries, and sets and tables whose errors
// are executed.
func TestUniv(t *testing.T) {
	check(t, api.Spec{Kind: api.Univ, P: 2, Q: 2}, []application{
		{[]uint64{0}, api.Call{A: 5}, []uint64{1, 5}, val(0)},
		{[]uint64{1, 5}, api.Call{Thread: 2, A: 1<<32 - 1}, []uint64{2, 5, 1<<32 - 1}, val(0)},
		{[]uint64{1, 5, 6}, api.Call{Kind: 1}, []uint64{2, 5}, val(6)},
		{[]uint64{1, 5, 6}, api.Call{Kind: 2}, []uint64{2, 5, 6}, val(6)},
		{[]uint64{1, 5, 6}, api.Call{Kind: 2, A: 1 << 32}, nil, fail(api.ErrRange)},
		{[]uint64{2, 5, 6}, api.Call{Kind: 2, A: 1 << 32}, nil, fail(api.ErrRange)},
		{[]uint64{2, 5, 6}, api.Call{Kind: 3, A: 1 << 32}, nil, fail(api.ErrKind)},
		{[]uint64{2, 5, 6}, api.Call{Kind: 1}, nil, fail(api.ErrFull)},
		{[]uint64{2, 5, 6}, api.Call{Kind: 2}, nil, fail(api.ErrFull)},
		{[]uint64{3, 5, 6}, api.Call{Kind: 2}, nil, fail(api.ErrFull)},
		{[]uint64{top, 5, 6}, api.Call{Kind: 2}, nil, fail(api.ErrFull)},
	})
	for _, x := range []struct {
		typ   int
		state []uint64
		c     api.Call
		want  api.Errno
	}{
		{2, []uint64{0}, api.Call{Kind: 1}, api.ErrEmpty},
		{2, []uint64{1}, api.Call{Kind: 2}, api.ErrEmpty},
		{3, []uint64{0, 1, 2, 3, 4, 5, 6, 7, 8}, api.Call{A: 9}, api.ErrFull},
		{4, []uint64{1, 7}, api.Call{A: 64}, api.ErrRange},
		{7, []uint64{1, 1, 2, 3, 4, 5, 6, 7, 8}, api.Call{Kind: 1, A: 8 << 24}, api.ErrRange},
	} {
		s := api.Spec{Kind: api.Univ, P: x.typ, Q: 2}
		counted := slices.Clone(x.state)
		counted[0]++
		after, a := model.Apply(3, s, x.state, x.c)
		legal, ok := model.Legal(3, s, x.state, x.c, fail(x.want))
		if !slices.Equal(after, counted) || !trial.SameAnswer(a, fail(x.want)) || !ok || !slices.Equal(legal, counted) {
			t.Errorf("%v: %v in %v: %v, %v; %v, %v", s, x.c, x.state, after, a, legal, ok)
		}
	}
}

// 27.2: the operations of all types are those of seq.
func TestTypes(t *testing.T) {
	number := trial.Numbers(63)
	for typ := range 8 {
		s := api.Spec{Kind: api.Univ, P: typ, Q: 200}
		m, _ := model.New(5, s)
		state := seq.New(typ)
		for i := range 250 {
			c := api.Call{Thread: number(5), Kind: number(seq.Kinds(typ)), A: uint64(number(1 + number(1<<31)))}
			var want api.Answer
			if i < 200 {
				state, want = seq.Apply(typ, state, c.Kind, c.A)
			} else {
				want = fail(api.ErrFull)
			}
			var a api.Answer
			m, a = model.Apply(5, s, m, c)
			if !trial.SameAnswer(a, want) || m[0] != uint64(min(i+1, 200)) || !slices.Equal(m[1:], state) {
				t.Fatalf("type %d, operation %d: %v, %v; want %v, %v", typ, i, m, a, state, want)
			}
		}
	}
}

// 27.2: a queue, with the example of the chapter. It accepts any number of values.
func TestQueue(t *testing.T) {
	check(t, api.Spec{Kind: api.Queue, P: 8}, []application{
		{nil, api.Call{Thread: 1, A: 5, B: 9}, []uint64{1, 5}, val(0)},
		{[]uint64{1, 5}, api.Call{Kind: 1}, nil, val(5)},
		{[]uint64{1, 5}, api.Call{Thread: 2, A: 0}, []uint64{1, 5, 2, 0}, val(0)},
		{[]uint64{1, 5}, api.Call{Thread: 1, A: 1<<24 - 1}, []uint64{1, 5, 1, 1<<24 - 1}, val(0)},
		{[]uint64{1, 5, 2, 0, 1, 6}, api.Call{Thread: 2, Kind: 1, A: top}, []uint64{2, 0, 1, 6}, val(5)},
		{[]uint64{2, 0, 1, 6}, api.Call{Thread: 2, Kind: 1}, []uint64{1, 6}, val(0)},
		{[]uint64{top, top}, api.Call{Kind: 1}, nil, val(top)},
		{nil, api.Call{Kind: 1}, nil, fail(api.ErrEmpty)},
		{[]uint64{1, 5}, api.Call{A: 1 << 24}, nil, fail(api.ErrRange)},
		{nil, api.Call{A: top}, nil, fail(api.ErrRange)},
	})
	s := api.Spec{Kind: api.Queue, P: 1}
	var m, want []uint64
	for i := range uint64(300) {
		var a api.Answer
		m, a = model.Apply(2, s, m, api.Call{Thread: int(i % 2), A: i})
		want = append(want, i%2, i)
		if !slices.Equal(m, want) || !trial.SameAnswer(a, val(0)) {
			t.Fatal(i, m, a)
		}
	}
}

// 27.2: a pin register, whose numbers wrap around; only thread 0 writes.
func TestPin(t *testing.T) {
	check(t, api.Spec{Kind: api.Pin, P: 3}, []application{
		{[]uint64{0, 0, 0}, api.Call{A: 5, B: 9}, []uint64{5, 6, 7}, val(0)},
		{[]uint64{5, 6, 7}, api.Call{A: top - 1}, []uint64{top - 1, top, 0}, val(0)},
		{[]uint64{5, 6, 7}, api.Call{Thread: 1, A: 5}, nil, fail(api.ErrRole)},
		{[]uint64{5, 6, 7}, api.Call{Thread: 2}, nil, fail(api.ErrRole)},
		{[]uint64{5, 6, 7}, api.Call{Kind: 1, A: 9}, []uint64{5, 6, 7}, api.Answer{List: []uint64{5, 6, 7}}},
		{[]uint64{5, 0, 9}, api.Call{Thread: 2, Kind: 1}, []uint64{5, 0, 9}, api.Answer{List: []uint64{5, 0, 9}}},
	})
}

// 27.3: an empty list is as good as none, where there is none.
func TestLegalLists(t *testing.T) {
	s := api.Spec{Kind: api.Tally}
	if after, ok := model.Legal(1, s, []uint64{4}, api.Call{Kind: 1}, api.Answer{Val: 4, List: []uint64{}}); !ok || after[0] != 4 {
		t.Error(after, ok)
	}
	for _, l := range [][]uint64{nil, {}, {1}, {1, 2, 3}, {2, 1}, {1, 3}} {
		s := api.Spec{Kind: api.Pin, P: 2}
		if after, ok := model.Legal(1, s, []uint64{1, 2}, api.Call{Kind: 1}, api.Answer{List: l}); ok || !slices.Equal(after, []uint64{1, 2}) {
			t.Error(l, after, ok)
		}
	}
}

// 27.3: for a state that is not right, and a thread that does not exist, just ErrArg
// is legal.
func TestLegalErrArg(t *testing.T) {
	queue := api.Spec{Kind: api.Queue, P: 1}
	for _, x := range []struct {
		n     int
		s     api.Spec
		state []uint64
		c     api.Call
	}{
		{1, api.Spec{Kind: api.Tally}, nil, api.Call{}},
		{1, api.Spec{Kind: 10}, []uint64{5}, api.Call{}},
		{0, queue, nil, api.Call{}},
		{17, queue, nil, api.Call{}},
		{1, queue, []uint64{5}, api.Call{}},
		{1, queue, []uint64{0, 5}, api.Call{Thread: 1}},
		{1, queue, []uint64{0, 5}, api.Call{Thread: -1}},
	} {
		for e := api.Errno(-1); e <= 13; e++ {
			after, ok := model.Legal(x.n, x.s, x.state, x.c, fail(e))
			if ok != (e == api.ErrArg) || !slices.Equal(after, x.state) {
				t.Errorf("%v with %v: %v, %v", x, e, after, ok)
			}
		}
		if after, ok := model.Legal(x.n, x.s, x.state, x.c, api.Answer{Err: api.ErrArg, Val: 1}); ok || !slices.Equal(after, x.state) {
			t.Errorf("%v: %v, %v", x, after, ok)
		}
	}
}

// 27.3: a thread may find its places taken if enough of the values in the queue are
// its own: for all numbers of threads and of places.
func TestLegalFull(t *testing.T) {
	for n := 1; n <= api.MaxThreads; n++ {
		for p := 1; p <= 32; p++ {
			s := api.Spec{Kind: api.Queue, P: p, Q: p % 4}
			for own := range 34 {
				thread := own % n
				state := slices.Repeat([]uint64{16, 3}, 40)
				for i := range own {
					state[2*i] = uint64(thread)
				}
				after, ok := model.Legal(n, s, state, api.Call{Thread: thread, A: 5}, fail(api.ErrFull))
				if ok != (own >= p-n-1) || !slices.Equal(after, state) {
					t.Errorf("%d threads, %d places, %d values: %v, %v", n, p, own, after, ok)
				}
			}
		}
	}
}

// 27.3: only just ErrFull, of an operation that puts a value that it could put, into
// a queue; the values of others do not matter, and values are no threads.
func TestLegalNotFull(t *testing.T) {
	full := fail(api.ErrFull)
	four := api.Spec{Kind: api.Queue, P: 4}
	for _, x := range []struct {
		s     api.Spec
		state []uint64
		c     api.Call
		a     api.Answer
		want  bool
	}{
		{four, []uint64{1, 0, 0, 1}, api.Call{A: 1}, full, true},
		{four, []uint64{1, 0, 0, 1}, api.Call{Thread: 1, A: 1}, full, true},
		{four, []uint64{1, 0, 1, 0}, api.Call{A: 1}, full, false},
		{four, []uint64{1 << 32, 0, 1 << 63, 0}, api.Call{A: 1}, full, false},
		{four, []uint64{0, 0}, api.Call{A: 1<<24 - 1}, full, true},
		{four, []uint64{0, 0}, api.Call{A: 1 << 24}, full, false},
		{four, []uint64{0, 0}, api.Call{Kind: 1}, full, false},
		{four, nil, api.Call{Kind: 1}, full, false},
		{four, []uint64{0, 0}, api.Call{Kind: 2}, full, false},
		{four, []uint64{0, 0}, api.Call{Kind: -1}, full, false},
		{four, []uint64{0, 0}, api.Call{A: 1}, api.Answer{Err: api.ErrFull, Val: 1}, false},
		{four, []uint64{0, 0}, api.Call{A: 1}, api.Answer{Err: api.ErrFull, List: []uint64{0}}, false},
		{four, []uint64{0, 0}, api.Call{A: 1}, api.Answer{Err: api.ErrFull, List: []uint64{}}, true},
		{four, []uint64{0, 0}, api.Call{A: 1}, fail(api.ErrEmpty), false},
		{api.Spec{Kind: api.Univ, P: 3, Q: 1}, []uint64{0}, api.Call{A: 1}, full, false},
		{api.Spec{Kind: api.Snap, P: 1}, []uint64{0, 0, 0, 0}, api.Call{A: 1}, full, false},
		{api.Spec{Kind: api.Tally}, []uint64{0}, api.Call{}, full, false},
	} {
		after, ok := model.Legal(2, x.s, x.state, x.c, x.a)
		if ok != x.want || !slices.Equal(after, x.state) {
			t.Errorf("%v: %v, %v", x, after, ok)
		}
	}
}
