package stat_test

import (
	"math"
	"math/big"
	"slices"
	"testing"

	"roundelay/api"
	"roundelay/bound"
	"roundelay/run"
	"roundelay/stat"
	"roundelay/table"
	"roundelay/trial"
)

var (
	nan     = math.NaN()
	inf     = math.Inf(1)
	less    = math.Inf(-1)
	minus   = math.Copysign(0, -1)
	special = []float64{nan, less, -math.MaxFloat64, -1, -math.SmallestNonzeroFloat64, minus, 0, math.SmallestNonzeroFloat64, 1, math.MaxFloat64, inf}
)

// same compares numbers, where NaN is the same as NaN, and 0 differs from -0.
func same(a, b float64) bool {
	if math.IsNaN(a) || math.IsNaN(b) {
		return math.IsNaN(a) && math.IsNaN(b)
	}
	return a == b && math.Signbit(a) == math.Signbit(b)
}

// sameAll compares lists of numbers.
func sameAll(a, b []float64) bool {
	return slices.EqualFunc(a, b, same)
}

// 32.1: ordinary ratios, those with 0, and numbers that a float has no room for.
func TestRatio(t *testing.T) {
	for _, x := range []struct {
		a, b int
		want float64
	}{
		{1, 4, 0.25},
		{-1, 4, -0.25},
		{1, -4, -0.25},
		{-6, -4, 1.5},
		{1, 3, 1.0 / 3},
		{7, 7, 1},
		{0, 0, nan},
		{3, 0, inf},
		{math.MaxInt, 0, inf},
		{-3, 0, less},
		{math.MinInt, 0, less},
		{0, 3, 0},
		{0, math.MaxInt, 0},
		{0, -3, minus},
		{0, math.MinInt, minus},
		{math.MinInt, 1, -0x1p63},
		{math.MinInt, -1, 0x1p63},
		{math.MinInt, math.MinInt, 1},
		{math.MaxInt, 1, 0x1p63},
		{math.MaxInt, math.MinInt, -1},
		{1<<53 + 1, 1, 0x1p53},
		{1<<53 + 3, 1, 0x1p53 + 4},
		{1<<53 + 1, 1 << 53, 1},
	} {
		if r := stat.Ratio(x.a, x.b); !same(r, x.want) {
			t.Errorf("Ratio(%d, %d): %v; want %v", x.a, x.b, r, x.want)
		}
	}
}

// 32.1 (Mean): ordinary numbers, none, and numbers at and beyond the ends of the range.
func TestMean(t *testing.T) {
	const end = 1 << 30
	for _, x := range []struct {
		l    []int
		want float64
	}{
		{nil, nan},
		{[]int{}, nan},
		{[]int{0}, 0},
		{[]int{0, 0, 0}, 0},
		{[]int{5}, 5},
		{[]int{-5}, -5},
		{[]int{1, 2}, 1.5},
		{[]int{3, -3}, 0},
		{[]int{1, 0, 0}, 1.0 / 3},
		{[]int{end}, end},
		{[]int{end - 1}, end - 1},
		{[]int{end + 1}, end},
		{[]int{math.MaxInt}, end},
		{[]int{-end}, -end},
		{[]int{1 - end}, 1 - end},
		{[]int{-end - 1}, -end},
		{[]int{math.MinInt}, -end},
		{[]int{math.MaxInt, math.MinInt, 6}, 2},
		{[]int{math.MaxInt, math.MaxInt, math.MaxInt}, end},
		{[]int{math.MinInt, math.MinInt, 0, 0}, -end / 2},
	} {
		if r := stat.Mean(x.l); !same(r, x.want) {
			t.Errorf("Mean(%v): %v; want %v", x.l, r, x.want)
		}
	}
}

// 32.1 (Mean): a sum that has no room in 32 bits, and one that is exact only as a
// whole number.
func TestMeanOfMany(t *testing.T) {
	if r := stat.Mean(slices.Repeat([]int{math.MaxInt}, 1<<20)); r != 1<<30 {
		t.Error(r)
	}
	l := slices.Concat(slices.Repeat([]int{1 << 30}, 1<<23), []int{1}, slices.Repeat([]int{-1 << 30}, 1<<23))
	if r := stat.Mean(l); r != 1.0/(1<<24+1) {
		t.Error(r)
	}
}

// 32.2: ordinary numbers, none, zeros, and numbers at and beyond the ends of the range.
func TestEven(t *testing.T) {
	const end = 1 << 20
	for _, x := range []struct {
		l    []int
		want float64
	}{
		{[]int{1, 1, 2}, 16.0 / 18},
		{[]int{1, 3}, 0.8},
		{[]int{9}, 1},
		{[]int{9, 0}, 0.5},
		{[]int{0, 0, 0, 1}, 0.25},
		{nil, nan},
		{[]int{}, nan},
		{[]int{0}, nan},
		{[]int{0, 0}, nan},
		{[]int{-1, math.MinInt, 0}, nan},
		{[]int{3, -1}, 0.5},
		{[]int{math.MinInt, 3, 3}, 36.0 / 54},
		{[]int{end, end}, 1},
		{[]int{end, end + 1}, 1},
		{[]int{end, math.MaxInt, math.MaxInt}, 1},
		{[]int{end - 1, math.MaxInt}, 4398042316801.0 / 4398042316802},
		{[]int{math.MaxInt}, 1},
		{[]int{math.MaxInt, math.MinInt}, 0.5},
	} {
		if r := stat.Even(x.l); !same(r, x.want) {
			t.Errorf("Even(%v): %v; want %v", x.l, r, x.want)
		}
	}
}

// 32.2: of more than 4096 numbers only the first 4096 count.
func TestEvenOfMany(t *testing.T) {
	for _, x := range []struct {
		ones, zeros, more int // so many 1, then so many 0, then so many 1
		want              float64
	}{
		{4095, 0, 0, 1},
		{4096, 0, 0, 1},
		{4097, 0, 0, 1},
		{4096, 1, 0, 1},
		{4096, 5000, 70000, 1},
		{4095, 1, 0, 4095.0 / 4096},
		{4095, 1, 1, 4095.0 / 4096},
		{4094, 1, 1, 4095.0 / 4096},
		{2048, 2048, 2048, 0.5},
		{0, 4095, 1, 1.0 / 4096},
		{0, 4096, 1, nan},
		{0, 100000, 9, nan},
	} {
		l := slices.Concat(slices.Repeat([]int{1}, x.ones), make([]int, x.zeros), slices.Repeat([]int{1}, x.more))
		if r := stat.Even(l); !same(r, x.want) {
			t.Errorf("Even of %d, %d, %d: %v; want %v", x.ones, x.zeros, x.more, r, x.want)
		}
	}
}

// even is the chapter's definition, by numbers of 53 bits.
func even(l []int) float64 {
	l = l[:min(len(l), 4096)]
	sum, squares := new(big.Int), new(big.Int)
	for _, x := range l {
		v := big.NewInt(int64(max(0, min(x, 1<<20))))
		sum.Add(sum, v)
		squares.Add(squares, v.Mul(v, v))
	}
	number := func() *big.Float { return new(big.Float).SetPrec(53) }
	s, q, n := number().SetInt(sum), number().SetInt(squares), number().SetInt64(int64(len(l)))
	if q.Sign() == 0 {
		return nan
	}
	r, _ := number().Quo(number().Mul(s, s), number().Mul(n, q)).Float64()
	return r
}

// 32.2, 32.4: any numbers, many of them nearly equal, so that products are rounded.
func TestEvenAsDefined(t *testing.T) {
	number := trial.Numbers(95)
	for range 2000 {
		var l []int
		base, spread := number(1<<20+5), 1+number(1<<number(21))
		for range 1 + number(1<<number(14)) {
			l = append(l, base+number(spread)-spread/2)
		}
		r := stat.Even(l)
		if want := even(l); !same(r, want) {
			t.Fatalf("%d numbers about %d: %v; want %v", len(l), base, r, want)
		}
		if r > 1 {
			t.Fatalf("%d numbers about %d: %v", len(l), base, r)
		}
		equal := slices.Repeat([]int{base}, len(l))
		if r := stat.Even(equal); !same(r, 1) && base > 0 {
			t.Fatalf("%d times %d: %v", len(l), base, r)
		}
	}
}

// 32.3: the special numbers, alone and in pairs.
func TestGreatest(t *testing.T) {
	for _, l := range [][]float64{nil, {}} {
		if r := stat.Greatest(l); !same(r, less) {
			t.Error(r)
		}
	}
	// Behind NaN, the special numbers are in increasing order.
	for i, x := range special {
		if r := stat.Greatest([]float64{x}); !same(r, x) {
			t.Errorf("Greatest(%v): %v", x, r)
		}
		for j, y := range special {
			want := special[max(i, j)]
			if i == 0 || j == 0 {
				want = nan
			}
			if r := stat.Greatest([]float64{x, y}); !same(r, want) {
				t.Errorf("Greatest(%v, %v): %v; want %v", x, y, r, want)
			}
		}
	}
}

// 32.3, 32.5: rows of special numbers, and each division of a row into two lists.
func TestGreatestOfRows(t *testing.T) {
	for row := range trial.Rows(len(special), 5) {
		var l []float64
		for _, i := range row {
			l = append(l, special[i])
		}
		want := special[slices.Max(row)]
		if slices.Contains(row, 0) {
			want = nan
		}
		r := stat.Greatest(l)
		if !same(r, want) {
			t.Fatalf("Greatest(%v): %v; want %v", l, r, want)
		}
		for i := range len(l) + 1 {
			if both := stat.Greatest([]float64{stat.Greatest(l[:i]), stat.Greatest(l[i:])}); !same(both, r) {
				t.Fatalf("%v, at %d: %v; want %v", l, i, both, r)
			}
		}
	}
}

// 32.3 (Shares): events of calls that have a bound, of those whose bound is 0 or below
// it, and of those that have none.
func TestShares(t *testing.T) {
	most := []int{4, 0, -2, math.MaxInt}
	for _, x := range []struct {
		call, steps int
		want        float64
	}{
		{0, 1, 0.25},
		{0, 4, 1},
		{0, 6, 1.5},
		{0, 0, 0},
		{0, -2, -0.5},
		{1, 2, inf},
		{1, 0, nan},
		{1, -2, less},
		{2, 0, minus},
		{2, 5, -2.5},
		{3, math.MinInt, -1},
		{4, 1, inf},
		{4, 0, nan},
		{4, -1, less},
		{-1, 3, inf},
		{-1, 0, nan},
		{math.MaxInt, 3, inf},
		{math.MinInt, -3, less},
	} {
		l := stat.Shares(most, []api.Event{{Call: x.call, Steps: x.steps}})
		if !sameAll(l, []float64{x.want}) {
			t.Errorf("%d steps of the call %d: %v; want %v", x.steps, x.call, l, x.want)
		}
	}
	events := []api.Event{{Call: 2, Steps: 1}, {Call: 0, Steps: 3}, {Call: 0, Steps: 2}, {Call: 7, Steps: 1}, {Call: 0, Steps: 3}}
	if l := stat.Shares(most, events); !sameAll(l, []float64{-0.5, 0.75, 0.5, inf, 0.75}) {
		t.Error(l)
	}
	if l := stat.Shares(nil, events[:2]); !sameAll(l, []float64{inf, inf}) {
		t.Error(l)
	}
	if l := stat.Shares(most, nil); len(l) != 0 {
		t.Error(l)
	}
}

// 32.3 (Shares): what an event has beside its call and its steps makes no difference.
func TestSharesOfEvents(t *testing.T) {
	x := api.Event{Call: 1, Inv: 7, Resp: 9, Steps: 2, Answer: api.Answer{Err: api.ErrFull, Val: 8, List: []uint64{6}}, Key: []int{14}}
	if l := stat.Shares([]int{9, 8}, []api.Event{x, {Call: 1, Steps: 2}}); !sameAll(l, []float64{0.25, 0.25}) {
		t.Error(l)
	}
}

// 32.3: the shares of the events of plays, whose bounds are above 0, are never above 1.
func TestSharesOfPlays(t *testing.T) {
	number := trial.Numbers(96)
	whole := 0
	for range 300 {
		n := 1 + number(4)
		specs := []api.Spec{trial.AnySpec(number), trial.AnySpec(number)}
		calls := trial.CallsOn(number, n, specs, 3*n)
		r, e := run.Play(n, specs, calls, trial.Bursts(number, n, 50*n))
		if e != api.OK {
			t.Fatal(n, specs, e)
		}
		var most []int
		for _, c := range calls {
			most = append(most, trial.MostSteps(n, specs, c))
		}
		shares := stat.Shares(most, r.Events)
		if len(shares) != len(r.Events) || len(shares) > 0 && !(stat.Greatest(shares) <= 1) {
			t.Fatalf("%d threads, %v, %v: %v", n, specs, calls, shares)
		}
		for i, x := range r.Events {
			c := calls[x.Call]
			bound, e := bound.Most(n, specs[c.Obj], c.Kind)
			if e != api.OK || c.Kind >= table.Kinds(specs[c.Obj]) || shares[i] != float64(x.Steps)/float64(bound) {
				t.Fatalf("%d threads, %v, %v: %v", n, specs, c, shares[i])
			}
			if shares[i] == 1 {
				whole++
			}
		}
	}
	if whole < 100 {
		t.Error("too few operations with all their steps:", whole)
	}
}

// R4: arguments remain what they are, with their spare capacity, and no two results
// share memory.
func TestMemory(t *testing.T) {
	numbers := append(make([]int, 0, 4), math.MaxInt, math.MinInt, 3)
	for range 3 {
		if m, v := stat.Mean(numbers), stat.Even(numbers); m != 1 || v >= 1 {
			t.Error(m, v)
		}
	}
	if !slices.Equal(numbers[:4], []int{math.MaxInt, math.MinInt, 3, 0}) {
		t.Error(numbers)
	}
	floats := append(make([]float64, 0, 4), 3, minus, 7)
	if r := stat.Greatest(floats); r != 7 || !sameAll(floats[:4], []float64{3, minus, 7, 0}) {
		t.Error(r, floats)
	}
	most := append(make([]int, 0, 4), 2, 4)
	events := append(make([]api.Event, 0, 4), api.Event{Steps: 1}, api.Event{Call: 1, Steps: 1})
	for range 3 {
		l := stat.Shares(most, events)
		if !sameAll(l, []float64{0.5, 0.25}) {
			t.Error(l)
		}
		clear(l[:cap(l)])
	}
	if !slices.Equal(most[:4], []int{2, 4, 0, 0}) || events[0].Steps != 1 || events[1].Call != 1 || events[:4][2].Steps != 0 {
		t.Error(most, events)
	}
}
