package text_test

import (
	"math"
	"math/big"
	"regexp"
	"sort"
	"strings"
	"testing"

	"roundelay/api"
	"roundelay/text"
	"roundelay/trial"
)

const (
	signed  = `(0|-?[1-9][0-9]*)`
	natural = `(0|[1-9][0-9]*)`
)

// shape is what the line of an event looks like, apart from the ranges of its numbers.
var shape = regexp.MustCompile(`^` + strings.Repeat(signed+` `, 5) + natural +
	` \[(` + natural + `( ` + natural + `)*)?\] \[(` + signed + `( ` + signed + `)*)?\]$`)

// isLine tells whether a text is the line of an event.
func isLine(s string) bool {
	if !shape.MatchString(s) {
		return false
	}
	lists := strings.SplitN(s, "[", 3)
	for part, l := range lists {
		for i, x := range strings.Fields(strings.Trim(l, "] ")) {
			least, greatest := big.NewInt(math.MinInt64), big.NewInt(math.MaxInt64)
			if part == 1 || part == 0 && i == 5 {
				least, greatest = new(big.Int), new(big.Int).SetUint64(math.MaxUint64)
			}
			v, ok := new(big.Int).SetString(x, 10)
			if !ok || v.Cmp(least) < 0 || v.Cmp(greatest) > 0 {
				return false
			}
		}
	}
	return true
}

// canBegin tells whether a line of an event can begin with a text: the text, the rest
// of what it breaks off in, and the last fields of another line make one.
func canBegin(s string) bool {
	fields := []string{"0", "0", "0", "0", "0", "0", "[]", "[]"}
	for begin := range len(fields) + 1 {
		rest := strings.Join(fields[begin:], " ")
		if rest != "" {
			rest = " " + rest
		}
		for _, x := range []string{"", "1", "]", "1]", "[]"} {
			if isLine(s + x + rest) {
				return true
			}
		}
	}
	return false
}

// wrongAt returns the position of the first byte with which no line can begin: nor can
// one begin with any byte behind it.
func wrongAt(s string) int {
	return sort.Search(len(s), func(i int) bool { return !canBegin(s[:i+1]) })
}

// check compares Read of a text with the definition, and tells whether it is a line.
func check(t *testing.T, s string) bool {
	t.Helper()
	x, at, ok := text.Read(s)
	want := 0
	if !isLine(s) {
		want = wrongAt(s)
	}
	if ok != isLine(s) || at != want {
		t.Fatalf("Read(%q): %d, %v; want %d", s, at, ok, want)
	}
	if ok && text.Event(x) != s || !ok && (!same(x, api.Event{}) || x.Answer.List != nil || x.Key != nil) {
		t.Fatalf("Read(%q): %v", s, x)
	}
	return ok
}

// 33.2: lines that break off, numbers that begin or end wrong, or are out of range by
// a digit, and lists that are separated wrong.
func TestRead(t *testing.T) {
	const good = "1 2 3 4 5 6 [7 8] [9 10]"
	if x, at, ok := text.Read(good); !ok || at != 0 || !same(x, api.Event{Call: 1, Inv: 2, Resp: 3, Steps: 4, Answer: api.Answer{Err: 5, Val: 6, List: []uint64{7, 8}}, Key: []int{9, 10}}) {
		t.Error(x, at, ok)
	}
	for i := range good {
		if x, at, ok := text.Read(good[:i]); ok || at != i || !same(x, api.Event{}) {
			t.Error(i, x, at, ok)
		}
	}
	for _, x := range []struct {
		s  string
		at int
	}{
		{good + "\n", 24}, {good + " ", 24}, {good + "]", 24}, {good + "0", 24}, {" " + good, 0}, {"+" + good, 0},
		{"\x00", 0}, {"\xff", 0}, {"1\t", 1}, {"1\xc2\xa0", 1}, {"a", 0}, {"1a", 1}, {"1.", 1}, {"/", 0}, {":", 0}, {"1/", 1}, {"1:", 1}, {"[", 0},
		{"00", 1}, {"01", 1}, {"0-", 1}, {"-", 1}, {"--", 1}, {"-0", 1}, {"-01", 1}, {"- 1", 1}, {"-1-", 2}, {"1-", 1}, {"-a", 1}, {"1  2", 2}, {"1 -0", 3}, {"1 2 00", 5},
		{"9223372036854775807", 19}, {"9223372036854775808", 18}, {"92233720368547758070", 19}, {"9223372036854775810", 18}, {"10000000000000000000", 19}, {"99999999999999999999", 18},
		{"-9223372036854775808", 20}, {"-9223372036854775809", 19}, {"-92233720368547758080", 20}, {"-9223372036854775810", 19}, {"-10000000000000000000", 20}, {"-9999999999999999999", 19},
		{"1 9223372036854775808", 20}, {"1 2 9223372036854775808", 22}, {"1 2 3 9223372036854775808", 24}, {"1 2 3 4 9223372036854775808", 26},
		{"1 2 3 4 5 18446744073709551615", 30}, {"1 2 3 4 5 18446744073709551616", 29}, {"1 2 3 4 5 184467440737095516150", 30}, {"1 2 3 4 5 18446744073709551620", 29}, {"1 2 3 4 5 99999999999999999999", 29}, {"1 2 3 4 5 100000000000000000000", 30},
		{"1 2 3 4 5 -1", 10}, {"1 2 3 4 5 [", 10}, {"1 2 3 4 [", 8}, {"1 2 3 4 5 6[", 11}, {"1 2 3 4 5 6 7", 12}, {"1 2 3 4 5 6 ]", 12}, {"1 2 3 4 5 6  [", 12},
		{"1 2 3 4 5 6 [-", 13}, {"1 2 3 4 5 6 [ ", 13}, {"1 2 3 4 5 6 [[", 13}, {"1 2 3 4 5 6 [01", 14}, {"1 2 3 4 5 6 [1 ]", 15}, {"1 2 3 4 5 6 [1  2", 15}, {"1 2 3 4 5 6 [1,", 14}, {"1 2 3 4 5 6 [1 -2", 15}, {"1 2 3 4 5 6 [1[", 14},
		{"1 2 3 4 5 6 [18446744073709551616", 32}, {"1 2 3 4 5 6 [1 18446744073709551616", 34}, {"1 2 3 4 5 6 [18446744073709551615", 33},
		{"1 2 3 4 5 6 []", 14}, {"1 2 3 4 5 6 [][", 14}, {"1 2 3 4 5 6 []  ", 15}, {"1 2 3 4 5 6 []]", 14}, {"1 2 3 4 5 6 [] ]", 15}, {"1 2 3 4 5 6 [] 7", 15},
		{"1 2 3 4 5 6 [] [-", 17}, {"1 2 3 4 5 6 [] [-]", 17}, {"1 2 3 4 5 6 [] [-0", 17}, {"1 2 3 4 5 6 [] [ ", 16}, {"1 2 3 4 5 6 [] [1 ]", 18}, {"1 2 3 4 5 6 [] [1 -", 19},
		{"1 2 3 4 5 6 [] [9223372036854775808", 34}, {"1 2 3 4 5 6 [] [-9223372036854775809", 35}, {"1 2 3 4 5 6 [] [9223372036854775807", 35}, {"1 2 3 4 5 6 [] [] ", 17},
	} {
		if e, at, ok := text.Read(x.s); ok || at != x.at || !same(e, api.Event{}) {
			t.Errorf("Read(%q): %v, %d, %v; want %d", x.s, e, at, ok, x.at)
		}
		if check(t, x.s) {
			t.Errorf("%q is a line", x.s)
		}
	}
}

// 33.2: all rows of a few bytes, after several beginnings of lines.
func TestAllRows(t *testing.T) {
	const some = "01- []x"
	lines := 0
	for _, begin := range []string{"", "0 -1", "1 2 3 4 ", "1 2 3 4 5", "1 2 3 4 5 6 [", "1 2 3 4 5 6 [] ", "1 2 3 4 5 6 [0", "1 2 3 4 5 6 [] [-1", "1 2 3 4 5 6 [7] [1 ", "1 2 3 4 5 6 [7 8] ["} {
		for length := range 5 {
			for row := range trial.Rows(len(some), length) {
				s := []byte(begin)
				for _, i := range row {
					s = append(s, some[i])
				}
				if check(t, string(s)) {
					lines++
				}
			}
		}
	}
	if lines < 50 {
		t.Error("too few lines:", lines)
	}
}

// 33.2, R1: lines with some bytes changed, put in, left out, or cut off.
func TestSpoiledLines(t *testing.T) {
	number := trial.Numbers(104)
	const some = "0189- []\n,+\x00\xff"
	lines := 0
	for range 4000 {
		s := text.Event(someEvent(number))
		for range 1 + number(2) {
			i := number(len(s))
			c := string(some[number(len(some))])
			switch number(4) {
			case 0:
				s = s[:i] + c + s[i+1:]
			case 1:
				s = s[:i] + c + s[i:]
			case 2:
				s = s[:i] + s[i+1:] + "]"
			case 3:
				s = s[:i+1]
			}
		}
		if check(t, s) {
			lines++
		}
	}
	if lines < 100 {
		t.Error("too few lines:", lines)
	}
}

// 33.2: numbers about the ends of their ranges, in each field and in both lists.
func TestReadEnds(t *testing.T) {
	fields := []string{"0", "0", "0", "0", "0", "0", "[]", "[]"}
	lines := 0
	for place := range fields {
		for _, end := range []string{"9223372036854775807", "9223372036854775808", "18446744073709551615"} {
			v, _ := new(big.Int).SetString(end, 10)
			for d := int64(-12); d <= 12; d++ {
				for _, sign := range []string{"", "-"} {
					l := append([]string(nil), fields...)
					l[place] = sign + new(big.Int).Add(v, big.NewInt(d)).String()
					if place >= 6 {
						l[place] = "[" + l[place] + "]"
					}
					if check(t, strings.Join(l, " ")) {
						lines++
					}
				}
			}
		}
	}
	if lines < 100 {
		t.Error("too few lines:", lines)
	}
}
