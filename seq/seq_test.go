package seq_test

import (
	"math"
	"slices"
	"testing"

	"roundelay/api"
	"roundelay/seq"
	"roundelay/trial"
)

const top = math.MaxUint64

// initial are the states that the types have at first.
func initial() [][]uint64 {
	return [][]uint64{{0}, {0}, {}, {}, {0}, {0}, {0}, make([]uint64, 8)}
}

// noTypes are numbers of no type.
func noTypes() []int {
	return []int{-1, 8, 9, 256, math.MinInt, math.MaxInt}
}

// numbers is a list of 1, 2, and so on, that has this length.
func numbers(length int) []uint64 {
	l := make([]uint64, length)
	for i := range l {
		l[i] = uint64(i + 1)
	}
	return l
}

// 17.1: the numbers of operations.
func TestKinds(t *testing.T) {
	for typ, want := range []int{2, 2, 3, 3, 3, 2, 2, 2} {
		if got := seq.Kinds(typ); got != want {
			t.Errorf("type %d: %d; want %d", typ, got, want)
		}
	}
	for _, typ := range noTypes() {
		if got := seq.Kinds(typ); got != 0 {
			t.Errorf("type %d: %d", typ, got)
		}
	}
}

// 17.1: the initial states; each one is new memory (R4).
func TestNew(t *testing.T) {
	for typ, want := range initial() {
		for range 2 {
			got := seq.New(typ)
			if !slices.Equal(got, want) || !seq.Right(typ, got) {
				t.Errorf("type %d: %v; want %v", typ, got, want)
			}
			for i := range got {
				got[i] = 9
			}
		}
	}
	for _, typ := range noTypes() {
		if got := seq.New(typ); len(got) != 0 {
			t.Errorf("type %d: %v", typ, got)
		}
	}
}

// 17.1: a state has as many words as its type says, and these may be any.
func TestRight(t *testing.T) {
	for typ := range 8 {
		for length := range 70 {
			want := length == 1
			switch typ {
			case 2, 3:
				want = length <= 8
			case 7:
				want = length == 8
			}
			for _, word := range []uint64{0, 1, 1 << 16, 1 << 24, 1 << 63, top} {
				state := slices.Repeat([]uint64{word}, length)
				if seq.Right(typ, state) != want {
					t.Errorf("type %d, state %v: not %t", typ, state, want)
				}
			}
		}
	}
	for _, typ := range noTypes() {
		for length := range 10 {
			if seq.Right(typ, make([]uint64, length)) {
				t.Errorf("type %d, %d words", typ, length)
			}
		}
	}
}

// application is an operation on a state, and what comes of it.
type application struct {
	state []uint64
	kind  int
	arg   uint64
	want  []uint64
	val   uint64
	e     api.Errno
}

// check checks applications to a type.
func check(t *testing.T, typ int, l []application) {
	t.Helper()
	for _, q := range l {
		got, a := seq.Apply(typ, q.state, q.kind, q.arg)
		if !slices.Equal(got, q.want) || !trial.SameAnswer(a, api.Answer{Err: q.e, Val: q.val}) {
			t.Errorf("type %d: %v: %v, %v", typ, q, got, a)
		}
	}
}

// 17.2: a register.
func TestRegister(t *testing.T) {
	check(t, 0, []application{
		{state: []uint64{0}, want: []uint64{0}},
		{state: []uint64{7}, arg: 9, want: []uint64{7}, val: 7},
		{state: []uint64{top}, want: []uint64{top}, val: top},
		{state: []uint64{0}, kind: 1, arg: 5, want: []uint64{5}},
		{state: []uint64{5}, kind: 1, arg: 3, want: []uint64{3}, val: 5},
		{state: []uint64{5}, kind: 1, arg: top, want: []uint64{top}, val: 5},
		{state: []uint64{top}, kind: 1, want: []uint64{0}, val: top},
	})
}

// 17.2: a counter, which wraps around.
func TestCounter(t *testing.T) {
	check(t, 1, []application{
		{state: []uint64{0}, want: []uint64{0}},
		{state: []uint64{7}, arg: 9, want: []uint64{7}, val: 7},
		{state: []uint64{0}, kind: 1, arg: 5, want: []uint64{5}},
		{state: []uint64{5}, kind: 1, arg: 3, want: []uint64{8}, val: 5},
		{state: []uint64{5}, kind: 1, want: []uint64{5}, val: 5},
		{state: []uint64{top}, kind: 1, arg: 1, want: []uint64{0}, val: top},
		{state: []uint64{top}, kind: 1, arg: top, want: []uint64{top - 1}, val: top},
		{state: []uint64{1 << 63}, kind: 1, arg: 1<<63 + 4, want: []uint64{4}, val: 1 << 63},
	})
}

// 17.2: a stack, whose top element is the last one of its state.
func TestStack(t *testing.T) {
	check(t, 2, []application{
		{arg: 5, want: []uint64{5}},
		{state: []uint64{5}, arg: top, want: []uint64{5, top}},
		{state: []uint64{5}, arg: 0, want: []uint64{5, 0}},
		{state: numbers(7), arg: 8, want: numbers(8)},
		{state: numbers(8), arg: 9, want: numbers(8), e: api.ErrFull},
		{kind: 1, arg: 5, e: api.ErrEmpty},
		{state: []uint64{5}, kind: 1, arg: 8, want: nil, val: 5},
		{state: []uint64{5, 6}, kind: 1, want: []uint64{5}, val: 6},
		{state: numbers(8), kind: 1, want: numbers(7), val: 8},
		{kind: 2, arg: 5, e: api.ErrEmpty},
		{state: []uint64{5}, kind: 2, arg: 8, want: []uint64{5}, val: 5},
		{state: []uint64{5, 6}, kind: 2, want: []uint64{5, 6}, val: 6},
		{state: numbers(8), kind: 2, want: numbers(8), val: 8},
	})
}

// 17.2: a queue, whose first element is the first one of its state.
func TestQueue(t *testing.T) {
	check(t, 3, []application{
		{arg: 5, want: []uint64{5}},
		{state: []uint64{5}, arg: top, want: []uint64{5, top}},
		{state: []uint64{5}, arg: 0, want: []uint64{5, 0}},
		{state: numbers(7), arg: 8, want: numbers(8)},
		{state: numbers(8), arg: 9, want: numbers(8), e: api.ErrFull},
		{kind: 1, arg: 5, e: api.ErrEmpty},
		{state: []uint64{5}, kind: 1, arg: 8, want: nil, val: 5},
		{state: []uint64{5, 6}, kind: 1, want: []uint64{6}, val: 5},
		{state: numbers(8), kind: 1, want: []uint64{2, 3, 4, 5, 6, 7, 8}, val: 1},
		{kind: 2, arg: 5, e: api.ErrEmpty},
		{state: []uint64{5}, kind: 2, arg: 8, want: []uint64{5}, val: 5},
		{state: []uint64{5, 6}, kind: 2, want: []uint64{5, 6}, val: 5},
		{state: numbers(8), kind: 2, want: numbers(8), val: 1},
	})
}

// 17.2: a set, for all numbers that can be in it, and for some that cannot.
func TestSet(t *testing.T) {
	for i := range uint64(64) {
		bit := uint64(1) << i
		check(t, 4, []application{
			{state: []uint64{0}, arg: i, want: []uint64{0}},
			{state: []uint64{bit}, arg: i, want: []uint64{bit}, val: 1},
			{state: []uint64{^bit}, arg: i, want: []uint64{^bit}},
			{state: []uint64{0}, kind: 1, arg: i, want: []uint64{bit}, val: 1},
			{state: []uint64{bit}, kind: 1, arg: i, want: []uint64{bit}},
			{state: []uint64{^bit}, kind: 1, arg: i, want: []uint64{top}, val: 1},
			{state: []uint64{0}, kind: 2, arg: i, want: []uint64{0}},
			{state: []uint64{bit}, kind: 2, arg: i, want: []uint64{0}, val: 1},
			{state: []uint64{top}, kind: 2, arg: i, want: []uint64{^bit}, val: 1},
			{state: []uint64{^bit}, kind: 2, arg: i, want: []uint64{^bit}},
		})
	}
	for _, arg := range []uint64{64, 65, 128, 1 << 32, 1 << 63, top} {
		for kind := range 3 {
			for _, word := range []uint64{0, 1, top} {
				check(t, 4, []application{{state: []uint64{word}, kind: kind, arg: arg, want: []uint64{word}, e: api.ErrRange}})
			}
		}
	}
}

// 17.2: a maximum.
func TestMaximum(t *testing.T) {
	check(t, 5, []application{
		{state: []uint64{0}, want: []uint64{0}},
		{state: []uint64{7}, arg: 9, want: []uint64{7}, val: 7},
		{state: []uint64{0}, kind: 1, arg: 5, want: []uint64{5}},
		{state: []uint64{5}, kind: 1, arg: 4, want: []uint64{5}, val: 5},
		{state: []uint64{5}, kind: 1, arg: 5, want: []uint64{5}, val: 5},
		{state: []uint64{5}, kind: 1, arg: 6, want: []uint64{6}, val: 5},
		{state: []uint64{5}, kind: 1, arg: 1 << 63, want: []uint64{1 << 63}, val: 5},
		{state: []uint64{top}, kind: 1, arg: 1, want: []uint64{top}, val: top},
	})
}

// 17.2: a swapper, which looks at the lowest 32 bits of its argument only; a
// state that no operation leads to is never what is expected.
func TestSwapper(t *testing.T) {
	check(t, 6, []application{
		{state: []uint64{0}, want: []uint64{0}},
		{state: []uint64{7}, arg: 9, want: []uint64{7}, val: 7},
		{state: []uint64{0}, kind: 1, arg: 9, want: []uint64{9}, val: 1},
		{state: []uint64{0}, kind: 1, arg: 65535, want: []uint64{65535}, val: 1},
		{state: []uint64{0}, kind: 1, arg: 65536, want: []uint64{0}},
		{state: []uint64{9}, kind: 1, arg: 5, want: []uint64{9}},
		{state: []uint64{9}, kind: 1, arg: 9<<16 + 9, want: []uint64{9}, val: 1},
		{state: []uint64{9}, kind: 1, arg: 9<<16 + 5, want: []uint64{5}, val: 1},
		{state: []uint64{9}, kind: 1, arg: 8<<16 + 5, want: []uint64{9}},
		{state: []uint64{65535}, kind: 1, arg: 65535 << 16, want: []uint64{0}, val: 1},
		{state: []uint64{65535}, kind: 1, arg: 65534<<16 + 65535, want: []uint64{65535}},
		{state: []uint64{9}, kind: 1, arg: 1<<32 + 9<<16 + 5, want: []uint64{5}, val: 1},
		{state: []uint64{65535}, kind: 1, arg: top - 2, want: []uint64{65533}, val: 1},
		{state: []uint64{65536}, kind: 1, arg: 5, want: []uint64{65536}},
		{state: []uint64{65536}, kind: 1, arg: 1<<32 + 5, want: []uint64{65536}},
		{state: []uint64{65537}, kind: 1, arg: 1<<16 + 5, want: []uint64{65537}},
	})
}

// 17.2: a table.
func TestTable(t *testing.T) {
	for i := range uint64(8) {
		set := numbers(8)
		set[i] = 99
		most := numbers(8)
		most[i] = 1<<24 - 1
		zero := numbers(8)
		zero[i] = 0
		check(t, 7, []application{
			{state: make([]uint64, 8), arg: i, want: make([]uint64, 8)},
			{state: numbers(8), arg: i, want: numbers(8), val: i + 1},
			{state: numbers(8), kind: 1, arg: i<<24 + 99, want: set, val: i + 1},
			{state: numbers(8), kind: 1, arg: i<<24 + 1<<24 - 1, want: most, val: i + 1},
			{state: numbers(8), kind: 1, arg: i << 24, want: zero, val: i + 1},
		})
	}
	for _, arg := range []uint64{8, 9, 1 << 24, 1 << 32, 1 << 63, top} {
		check(t, 7, []application{{state: numbers(8), arg: arg, want: numbers(8), e: api.ErrRange}})
	}
	for _, arg := range []uint64{8 << 24, 8<<24 + 1, 9 << 24, 1 << 32, 1<<32 + 5, 1 << 63, top} {
		check(t, 7, []application{{state: numbers(8), kind: 1, arg: arg, want: numbers(8), e: api.ErrRange}})
	}
}

// 17.2: wrong types, states and kinds, in the order of their errors; the state
// comes back as it is.
func TestApplyErrors(t *testing.T) {
	for _, typ := range noTypes() {
		for _, state := range [][]uint64{nil, {3}, numbers(8), numbers(9)} {
			check(t, typ, []application{
				{state: state, want: state, e: api.ErrArg},
				{state: state, kind: 7, arg: top, want: state, e: api.ErrArg},
			})
		}
	}
	for typ, first := range initial() {
		for _, wrong := range [][]uint64{nil, {3, 4}, numbers(7), numbers(9), numbers(70)} {
			if !seq.Right(typ, wrong) {
				check(t, typ, []application{
					{state: wrong, want: wrong, e: api.ErrArg},
					{state: wrong, kind: -1, want: wrong, e: api.ErrArg},
					{state: wrong, kind: 3, arg: top, want: wrong, e: api.ErrArg},
				})
			}
		}
		for _, kind := range []int{-1, seq.Kinds(typ), 3, 4, 256, math.MinInt, math.MaxInt} {
			check(t, typ, []application{
				{state: first, kind: kind, want: first, e: api.ErrKind},
				{state: first, kind: kind, arg: top, want: first, e: api.ErrKind},
			})
		}
	}
}

// 17.2, R4: the given state stays what it is, behind its end, too, and the state
// that comes back is new memory, with an error as well.
func TestStatesAlone(t *testing.T) {
	for typ := -1; typ <= 8; typ++ {
		for length := range 10 {
			for kind := range 4 {
				for _, arg := range []uint64{0, 1, 5, 8, 64, 1 << 24, 3<<24 + 1, 1 << 32} {
					checkAlone(t, typ, numbers(length), kind, arg)
				}
			}
		}
	}
}

// checkAlone checks that an operation changes nothing of what it is given, and
// hands out nothing of it.
func checkAlone(t *testing.T, typ int, state []uint64, kind int, arg uint64) {
	t.Helper()
	room := append(slices.Clone(state), 77, 88)
	want := slices.Clone(room)
	got, _ := seq.Apply(typ, room[:len(state)], kind, arg)
	if !slices.Equal(room, want) {
		t.Errorf("type %d, kind %d, argument %d changes %v: %v", typ, kind, arg, want, room)
	}
	got = got[:cap(got)]
	for i := range got {
		got[i] = 99
	}
	if !slices.Equal(room, want) {
		t.Errorf("type %d, kind %d, argument %d hands out %v", typ, kind, arg, want)
	}
}

// 17.3: from the initial state on, and from any other one, only states of the
// type are reached; with an error, none but the one that was given.
func TestValid(t *testing.T) {
	for seed := range 200 {
		next := trial.Numbers(uint64(seed))
		typ := seed % 8
		state := seq.New(typ)
		if seed%3 == 0 {
			for i := range state {
				state[i] = uint64(next(1<<30)) << next(60)
			}
		}
		for range 200 {
			arg := uint64(next(1 << 30))
			if next(3) > 0 {
				arg %= 1 << next(33)
			}
			after, a := seq.Apply(typ, state, next(4), arg)
			if !seq.Right(typ, after) || a.Err != api.OK && (a.Val != 0 || !slices.Equal(after, state)) || len(a.List) != 0 {
				t.Fatalf("type %d: %v leads to %v, %v", typ, state, after, a)
			}
			state = after
		}
	}
}

// 17.4: elements leave a stack, the one that came last first, and a queue, the
// one that came first first; one that is only shown stays. (5 and 6 are the
// example of the chapter.)
func TestOrder(t *testing.T) {
	for _, typ := range []int{2, 3} {
		for seed := range 50 {
			next := trial.Numbers(uint64(seed))
			var inside []uint64
			state := seq.New(typ)
			for i := range 200 {
				kind, element := next(3), uint64(i+5)
				var a api.Answer
				state, a = seq.Apply(typ, state, kind, element)
				want := api.Answer{}
				switch {
				case kind == 0 && len(inside) == 8:
					want.Err = api.ErrFull
				case kind == 0:
					inside = append(inside, element)
				case len(inside) == 0:
					want.Err = api.ErrEmpty
				default:
					leaves := 0
					if typ == 2 {
						leaves = len(inside) - 1
					}
					want.Val = inside[leaves]
					if kind == 1 {
						inside = slices.Delete(inside, leaves, leaves+1)
					}
				}
				if !trial.SameAnswer(a, want) || !slices.Equal(state, inside) {
					t.Fatalf("type %d, kind %d: %v, %v; want %v, %v", typ, kind, a, state, want, inside)
				}
			}
		}
	}
}
