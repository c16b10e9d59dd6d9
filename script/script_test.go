package script_test

import (
	"bytes"
	"math"
	"slices"
	"testing"

	"roundelay/api"
	"roundelay/script"
	"roundelay/trial"
)

// same compares scripts, where an empty list is as good as nil.
func same(a, b script.Script) bool {
	return a.N == b.N && slices.Equal(a.Specs, b.Specs) && slices.Equal(a.Calls, b.Calls) && slices.Equal(a.Picks, b.Picks)
}

// encode returns the bytes of a script, which must exist.
func encode(t *testing.T, s script.Script) []byte {
	t.Helper()
	b, e := script.Encode(s)
	if e != api.OK {
		t.Fatalf("Encode(%v): %v", s, e)
	}
	return b
}

// checkFault checks that bytes have this error at this position, and no script.
func checkFault(t *testing.T, b []byte, at int, e api.Errno) {
	t.Helper()
	s, foundAt, found := script.Decode(b)
	if found != e || foundAt != at || !same(s, script.Script{}) {
		t.Fatalf("Decode(%v): %v, %d, %v; want %d, %v", b, s, foundAt, found, at, e)
	}
}

// checkBoth checks that a script has these bytes, and that these are decoded to it.
func checkBoth(t *testing.T, s script.Script, want []byte) {
	t.Helper()
	if b := encode(t, s); !bytes.Equal(b, want) {
		t.Errorf("Encode(%v): %v; want %v", s, b, want)
	}
	x, at, e := script.Decode(want)
	if e != api.OK || at != 0 || !same(x, s) {
		t.Errorf("Decode(%v): %v, %d, %v; want %v", want, x, at, e, s)
	}
}

// 31.1, 31.2: the example of the chapter, each part alone, and all parts together.
func TestBytes(t *testing.T) {
	checkBoth(t, script.Script{N: 1, Specs: []api.Spec{{Kind: api.Cons}}, Picks: []int{0, 0, 0}}, []byte{1, 1, 1, 0, 0, 0, 0, 0, 0, 0, 3})
	checkBoth(t, script.Script{N: 4}, []byte{4, 0, 0, 0})
	checkBoth(t, script.Script{N: 16, Specs: []api.Spec{}, Calls: []api.Call{}, Picks: []int{}}, []byte{16, 0, 0, 0})
	checkBoth(t, script.Script{N: 1, Specs: []api.Spec{{Kind: 255, P: 258, Q: 65535}, {P: 65280, Q: 255}}},
		[]byte{1, 2, 255, 1, 2, 255, 255, 0, 255, 0, 0, 255, 0, 0})
	checkBoth(t, script.Script{N: 16, Calls: []api.Call{{Thread: 15, Obj: 255, Kind: 254, A: 1, B: 2, C: 3}, {}}},
		[]byte{16, 0, 0, 2, 15, 255, 254, 1, 2, 3, 0, 0, 0, 0, 0, 0})
	checkBoth(t, script.Script{N: 1, Picks: []int{0, 255, 255, 7, 0}}, []byte{1, 0, 0, 0, 0, 1, 255, 2, 7, 1, 0, 1})
	checkBoth(t, script.Script{
		N:     3,
		Specs: []api.Spec{{Kind: api.Queue, P: 3, Q: 1}},
		Calls: []api.Call{{Thread: 2, Kind: 1, A: 300}},
		Picks: []int{2, 2, 0},
	}, []byte{3, 1, 8, 0, 3, 0, 1, 0, 1, 2, 0, 1, 172, 2, 0, 0, 2, 2, 0, 1})
}

// 31.1, 31.2: varints about the ends of their lengths, as each of the three numbers.
func TestVarints(t *testing.T) {
	for _, x := range []struct {
		v uint64
		b []byte
	}{
		{0, []byte{0}},
		{1, []byte{1}},
		{127, []byte{127}},
		{128, []byte{128, 1}},
		{129, []byte{129, 1}},
		{255, []byte{255, 1}},
		{256, []byte{128, 2}},
		{1<<14 - 1, []byte{255, 127}},
		{1 << 14, []byte{128, 128, 1}},
		{1<<56 - 1, []byte{255, 255, 255, 255, 255, 255, 255, 127}},
		{1<<63 - 1, []byte{255, 255, 255, 255, 255, 255, 255, 255, 127}},
		{1 << 63, []byte{128, 128, 128, 128, 128, 128, 128, 128, 128, 1}},
		{math.MaxUint64, []byte{255, 255, 255, 255, 255, 255, 255, 255, 255, 1}},
	} {
		head := []byte{1, 0, 0, 1, 0, 0, 0}
		checkBoth(t, script.Script{N: 1, Calls: []api.Call{{A: x.v}}}, slices.Concat(head, x.b, []byte{0, 0}))
		checkBoth(t, script.Script{N: 1, Calls: []api.Call{{B: x.v}}}, slices.Concat(head, []byte{0}, x.b, []byte{0}))
		checkBoth(t, script.Script{N: 1, Calls: []api.Call{{C: x.v}}}, slices.Concat(head, []byte{0, 0}, x.b))
	}
}

// 31.1, 31.2: picks of one thread about the lengths of one run, two runs, and three.
func TestRuns(t *testing.T) {
	for _, x := range []struct {
		picks int
		runs  []byte
	}{
		{1, []byte{9, 1}},
		{254, []byte{9, 254}},
		{255, []byte{9, 255}},
		{256, []byte{9, 255, 9, 1}},
		{509, []byte{9, 255, 9, 254}},
		{510, []byte{9, 255, 9, 255}},
		{511, []byte{9, 255, 9, 255, 9, 1}},
	} {
		picks := slices.Repeat([]int{9}, x.picks)
		head := []byte{2, 0, 0, 0}
		checkBoth(t, script.Script{N: 2, Picks: picks}, slices.Concat(head, x.runs))
		checkBoth(t, script.Script{N: 2, Picks: slices.Concat(picks, []int{3}, picks)}, slices.Concat(head, x.runs, []byte{3, 1}, x.runs))
	}
}

// 31.1, 31.3: as much of everything as there can be, and one more.
func TestMost(t *testing.T) {
	whole := script.Script{
		N:     api.MaxThreads,
		Specs: slices.Repeat([]api.Spec{{Kind: 255, P: 65535, Q: 65535}}, api.MaxObjs),
		Calls: slices.Repeat([]api.Call{{Thread: 15, Obj: 255, Kind: 255, A: math.MaxUint64, B: math.MaxUint64, C: math.MaxUint64}}, api.MaxCalls),
		Picks: slices.Repeat([]int{255, 0}, api.MaxPicks/2),
	}
	b := encode(t, whole)
	if len(b) != 2+5*api.MaxObjs+2+33*api.MaxCalls+2*api.MaxPicks {
		t.Error(len(b))
	}
	if s, at, e := script.Decode(b); e != api.OK || at != 0 || !same(s, whole) {
		t.Error(at, e)
	}
	for i := range 8 {
		s, want := whole, api.OK
		if i&1 > 0 {
			s.Specs, want = append(slices.Clone(s.Specs), api.Spec{}), api.ErrLong
		}
		if i&2 > 0 {
			s.Calls, want = append(slices.Clone(s.Calls), api.Call{}), api.ErrLong
		}
		if i&4 > 0 {
			s.Picks, want = append(slices.Clone(s.Picks), 0), api.ErrLong
		}
		if b, e := script.Encode(s); e != want || (e == api.OK) != (len(b) > 0) {
			t.Error(i, len(b), e)
		}
	}
}

// 31.1: each number at the ends of its range, and beyond them.
func TestEncodeRange(t *testing.T) {
	for _, x := range []struct {
		most int
		set  func(s *script.Script, v int)
	}{
		{255, func(s *script.Script, v int) { s.Specs[1].Kind = v }},
		{65535, func(s *script.Script, v int) { s.Specs[1].P = v }},
		{65535, func(s *script.Script, v int) { s.Specs[1].Q = v }},
		{2, func(s *script.Script, v int) { s.Calls[1].Thread = v }},
		{255, func(s *script.Script, v int) { s.Calls[1].Obj = v }},
		{255, func(s *script.Script, v int) { s.Calls[1].Kind = v }},
		{255, func(s *script.Script, v int) { s.Picks[1] = v }},
	} {
		for v, want := range map[int]api.Errno{
			0: api.OK, 1: api.OK, x.most: api.OK,
			-1: api.ErrRange, x.most + 1: api.ErrRange, 65536: api.ErrRange, 1 << 32: api.ErrRange, math.MinInt: api.ErrRange, math.MaxInt: api.ErrRange,
		} {
			s := script.Script{N: 3, Specs: make([]api.Spec, 2), Calls: make([]api.Call, 2), Picks: make([]int, 2)}
			x.set(&s, v)
			b, e := script.Encode(s)
			if e != want || (e == api.OK) != (len(b) > 0) {
				t.Errorf("Encode(%v): %v, %v; want %v", s, b, e, want)
			}
		}
	}
}

// 31.1: the number of threads comes first, then too many of anything, then any other number.
func TestEncodeOrder(t *testing.T) {
	wrongSpec, wrongCall := api.Spec{Kind: -1}, api.Call{Thread: 16}
	for _, n := range []int{0, -1, 17, 256 + 1, math.MinInt, math.MaxInt} {
		for _, s := range []script.Script{
			{},
			{Calls: []api.Call{{}}},
			{Specs: []api.Spec{wrongSpec}, Calls: []api.Call{wrongCall}, Picks: []int{-1}},
			{Specs: make([]api.Spec, 9), Calls: make([]api.Call, 1001), Picks: make([]int, 65537)},
		} {
			s.N = n
			if b, e := script.Encode(s); e != api.ErrArg || len(b) > 0 {
				t.Errorf("%d threads: %v, %v", n, b, e)
			}
		}
	}
	for _, s := range []script.Script{
		{Specs: slices.Repeat([]api.Spec{wrongSpec}, 9)},
		{Calls: slices.Repeat([]api.Call{wrongCall}, 1001)},
		{Picks: slices.Repeat([]int{256}, 65537)},
		{Specs: []api.Spec{wrongSpec}, Calls: []api.Call{wrongCall}, Picks: slices.Repeat([]int{256}, 65537)},
		{Specs: []api.Spec{wrongSpec}, Calls: slices.Repeat([]api.Call{wrongCall}, 1001), Picks: []int{-1}},
	} {
		s.N = 16
		if b, e := script.Encode(s); e != api.ErrLong || len(b) > 0 {
			t.Error(len(b), e)
		}
	}
}

// 31.1: a call is of a thread below the number of threads, whatever that is; a pick need not be.
func TestEncodeThreads(t *testing.T) {
	for n := 1; n <= api.MaxThreads; n++ {
		s := script.Script{N: n, Calls: []api.Call{{Thread: n - 1}}, Picks: []int{n, 255}}
		checkBoth(t, s, []byte{byte(n), 0, 0, 1, byte(n - 1), 0, 0, 0, 0, 0, byte(n), 1, 255, 1})
		s.Calls[0].Thread = n
		if b, e := script.Encode(s); e != api.ErrRange || len(b) > 0 {
			t.Error(n, b, e)
		}
	}
}

// 31.2: each error of Decode alone, and those that occur at bytes of which one is missing.
func TestDecodeErrors(t *testing.T) {
	for _, x := range []struct {
		b  []byte
		at int
		e  api.Errno
	}{
		{nil, 0, api.ErrShort},
		{[]byte{}, 0, api.ErrShort},
		{[]byte{0}, 0, api.ErrArg},
		{[]byte{17}, 0, api.ErrArg},
		{[]byte{255, 9, 255}, 0, api.ErrArg},
		{[]byte{1}, 1, api.ErrShort},
		{[]byte{16, 9}, 1, api.ErrLong},
		{[]byte{16, 255}, 1, api.ErrLong},
		{[]byte{1, 8}, 2, api.ErrShort},
		{[]byte{1, 1, 1, 0, 0, 0}, 6, api.ErrShort},
		{[]byte{1, 1, 1, 0, 0, 0, 0}, 7, api.ErrShort},
		{[]byte{1, 0}, 2, api.ErrShort},
		{[]byte{1, 0, 255}, 3, api.ErrShort},
		{[]byte{1, 0, 3, 232}, 4, api.ErrShort},
		{[]byte{1, 0, 3, 233}, 2, api.ErrLong},
		{[]byte{1, 0, 4, 0}, 2, api.ErrLong},
		{[]byte{1, 1, 9, 9, 9, 9, 9, 255, 255, 1}, 7, api.ErrLong},
		{[]byte{1, 0, 0, 1, 1}, 4, api.ErrRange},
		{[]byte{15, 0, 0, 1, 15}, 4, api.ErrRange},
		{[]byte{16, 0, 0, 1, 15}, 5, api.ErrShort},
		{[]byte{16, 0, 0, 1, 16, 0}, 4, api.ErrRange},
		{[]byte{2, 0, 0, 2, 1, 0, 0, 0, 0, 0, 2}, 10, api.ErrRange},
		{[]byte{2, 0, 0, 2, 1, 0, 0, 128, 0, 0, 2}, 8, api.ErrForm},
		{[]byte{1, 0, 0, 0, 0}, 5, api.ErrShort},
		{[]byte{1, 0, 0, 0, 0, 0}, 4, api.ErrForm},
		{[]byte{1, 0, 0, 0, 0, 1, 0, 1}, 6, api.ErrForm},
		{[]byte{1, 0, 0, 0, 0, 1, 0, 255}, 6, api.ErrForm},
		{[]byte{1, 0, 0, 0, 0, 254, 0, 1}, 6, api.ErrForm},
		{[]byte{1, 0, 0, 0, 0, 255, 0, 1, 0, 1}, 8, api.ErrForm},
		{[]byte{1, 0, 0, 0, 0, 1, 1, 1, 0, 1, 1, 0}, 10, api.ErrForm},
		{[]byte{1, 0, 0, 0, 0, 1, 0}, 7, api.ErrShort},
		{[]byte{1, 0, 0, 0, 0, 0, 0}, 4, api.ErrForm},
	} {
		checkFault(t, x.b, x.at, x.e)
	}
}

// 31.2: varints that are wrong, or not complete, in each of the three places.
func TestDecodeVarints(t *testing.T) {
	nine := bytes.Repeat([]byte{128}, 9)
	for _, x := range []struct {
		v  []byte
		at int
		e  api.Errno
	}{
		{nil, 0, api.ErrShort},
		{[]byte{128}, 1, api.ErrShort},
		{[]byte{255, 255}, 2, api.ErrShort},
		{nine, 9, api.ErrShort},
		{[]byte{128, 0}, 1, api.ErrForm},
		{[]byte{255, 128, 0}, 2, api.ErrForm},
		{[]byte{129, 129, 129, 129, 129, 129, 129, 129, 0}, 8, api.ErrForm},
		{slices.Concat(nine, []byte{0}), 9, api.ErrForm},
		{slices.Concat(nine, []byte{2}), 9, api.ErrForm},
		{slices.Concat(nine, []byte{127}), 9, api.ErrForm},
		{slices.Concat(nine, []byte{128}), 9, api.ErrForm},
		{slices.Concat(nine, []byte{129, 1}), 9, api.ErrForm},
		{slices.Concat(nine, []byte{255}), 9, api.ErrForm},
	} {
		for before := range 3 {
			b := append([]byte{1, 0, 0, 1, 0, 0, 0}, bytes.Repeat([]byte{255, 1}, before)...)
			at := len(b) + x.at
			checkFault(t, append(b, x.v...), at, x.e)
		}
	}
}

// 31.2: as many picks as there can be, and more; at one run ErrShort precedes ErrForm,
// and ErrForm precedes ErrLong.
func TestDecodeLong(t *testing.T) {
	head := []byte{1, 0, 0, 0}
	full := slices.Concat(head, bytes.Repeat([]byte{5, 255}, 257)) // 65535 picks
	end := len(full)
	for _, x := range []struct {
		more []byte
		at   int
		e    api.Errno
	}{
		{nil, 0, api.OK},
		{[]byte{5, 1}, 0, api.OK},
		{[]byte{6, 1}, 0, api.OK},
		{[]byte{5, 2}, end, api.ErrLong},
		{[]byte{6, 255}, end, api.ErrLong},
		{[]byte{6, 0}, end, api.ErrForm},
		{[]byte{6}, end + 1, api.ErrShort},
		{[]byte{6, 1, 5}, end + 3, api.ErrShort},
		{[]byte{6, 1, 6}, end + 3, api.ErrShort},
		{[]byte{6, 1, 5, 1}, end + 2, api.ErrLong},
		{[]byte{6, 1, 5, 0}, end + 2, api.ErrForm},
		{[]byte{6, 1, 6, 1}, end + 2, api.ErrForm},
		{[]byte{6, 1, 6, 255}, end + 2, api.ErrForm},
		{[]byte{6, 2, 6, 0}, end, api.ErrLong},
	} {
		b := slices.Concat(full, x.more)
		if x.e != api.OK {
			checkFault(t, b, x.at, x.e)
			continue
		}
		s, at, e := script.Decode(b)
		if e != api.OK || at != 0 || len(s.Picks) != api.MaxPicks-1+len(x.more)/2 || !bytes.Equal(encode(t, s), b) {
			t.Error(x.more, len(s.Picks), at, e)
		}
	}
	s, at, e := script.Decode(append(head, bytes.Repeat([]byte{0, 1, 1, 1}, api.MaxPicks/2)...))
	if e != api.OK || at != 0 || len(s.Picks) != api.MaxPicks {
		t.Error(len(s.Picks), at, e)
	}
}

// someScript makes a script, whose objects and calls need not exist.
func someScript(number func(below int) int) script.Script {
	s := script.Script{N: 1 + number(api.MaxThreads)}
	for range number(api.MaxObjs + 1) {
		s.Specs = append(s.Specs, api.Spec{Kind: number(256), P: number(65536), Q: number(65536)})
	}
	for range number(6) {
		word := func() uint64 { return uint64(number(1<<31)*2+1) << number(64) >> number(64) }
		s.Calls = append(s.Calls, api.Call{Thread: number(s.N), Obj: number(256), Kind: number(256), A: word(), B: word(), C: word()})
	}
	for range number(6) {
		s.Picks = append(s.Picks, slices.Repeat([]int{number(3) * 100}, number(600))...)
	}
	return s
}

// 31.3: Decode inverts Encode.
func TestInverse(t *testing.T) {
	number := trial.Numbers(91)
	for range 2000 {
		s := someScript(number)
		checkBoth(t, s, encode(t, s))
	}
}

// headLength returns how many bytes are ahead of the runs.
func headLength(t *testing.T, s script.Script) int {
	t.Helper()
	s.Picks = nil
	return len(encode(t, s))
}

// 31.2, 31.3: a script whose bytes end too early has no byte where they end, unless
// they end with a run.
func TestPrefixes(t *testing.T) {
	number := trial.Numbers(92)
	for range 200 {
		s := someScript(number)
		b := encode(t, s)
		head := headLength(t, s)
		for end := range b {
			if end < head || (end-head)%2 == 1 {
				checkFault(t, b[:end], end, api.ErrShort)
			} else if x, at, e := script.Decode(b[:end]); e != api.OK || at != 0 || !bytes.Equal(encode(t, x), b[:end]) {
				t.Fatal(b[:end], x, at, e)
			}
		}
	}
}

// checkAny checks whatever bytes are decoded to: a script with these bytes, or an error
// that is the same for all bytes which are the same up to its end.
func checkAny(t *testing.T, b []byte) bool {
	t.Helper()
	s, at, e := script.Decode(b)
	switch e {
	case api.OK:
		if at != 0 || !bytes.Equal(encode(t, s), b) {
			t.Fatalf("Decode(%v): %v, %d", b, s, at)
		}
		return true
	case api.ErrShort:
		if at != len(b) {
			t.Fatalf("Decode(%v): ErrShort at %d", b, at)
		}
	case api.ErrArg, api.ErrLong, api.ErrRange, api.ErrForm:
		if at >= len(b) || e == api.ErrArg && at != 0 {
			t.Fatalf("Decode(%v): %v at %d", b, e, at)
		}
		for _, more := range [][]byte{nil, {0}, {255}, {1, 2, 3}} {
			checkFault(t, slices.Concat(b[:min(at+2, len(b))], more), at, e)
		}
		if before, _, e := script.Decode(b[:at]); e != api.OK && e != api.ErrShort {
			t.Fatalf("Decode(%v): %v, %v", b[:at], before, e)
		}
	default:
		t.Fatalf("Decode(%v): %v", b, e)
	}
	checkFault(t, b, at, e)
	return false
}

// 31.2, 31.3, R1: all rows of a few bytes after several beginnings.
func TestAllBytes(t *testing.T) {
	some := []byte{0, 1, 2, 5, 127, 128, 129, 255}
	right := 0
	for _, begin := range [][]byte{nil, {2, 1}, {2, 0, 0, 0}, {2, 0, 0, 1}, {2, 0, 0, 1, 1, 0, 0, 0}, {2, 0, 0, 0, 1, 255}} {
		for length := range 6 {
			for row := range trial.Rows(len(some), length) {
				b := slices.Clone(begin)
				for _, i := range row {
					b = append(b, some[i])
				}
				if checkAny(t, b) {
					right++
				}
			}
		}
	}
	if right < 1000 {
		t.Error("too few scripts:", right)
	}
}

// 31.2, 31.3, R1: scripts with a few bytes changed, put in, or left out.
func TestSpoiled(t *testing.T) {
	number := trial.Numbers(93)
	right := 0
	for range 20000 {
		b := encode(t, someScript(number))
		for range 1 + number(2) {
			i := number(len(b))
			switch number(3) {
			case 0:
				b[i] = byte(number(256))
			case 1:
				b = slices.Insert(b, i, byte(number(256)))
			case 2:
				b = slices.Delete(b, i, i+1)
			}
		}
		if len(b) > 0 && checkAny(t, b) {
			right++
		}
	}
	if right < 1000 {
		t.Error("too few scripts:", right)
	}
}

// R4: arguments remain what they are, with their spare capacity, and no two results
// share memory.
func TestMemory(t *testing.T) {
	specs := append(make([]api.Spec, 0, 4), api.Spec{Kind: 1, P: 2, Q: 3})
	calls := append(make([]api.Call, 0, 4), api.Call{A: 500})
	picks := append(make([]int, 0, 4), 7, 7, 8)
	s := script.Script{N: 1, Specs: specs, Calls: calls, Picks: picks}
	want := []byte{1, 1, 1, 0, 2, 0, 3, 0, 1, 0, 0, 0, 244, 3, 0, 0, 7, 2, 8, 1}
	for range 3 {
		b := encode(t, s)
		if !bytes.Equal(b, want) {
			t.Error(b)
		}
		clear(b[:cap(b)])
	}
	if !slices.Equal(specs[:4], []api.Spec{{Kind: 1, P: 2, Q: 3}, {}, {}, {}}) ||
		!slices.Equal(calls[:4], []api.Call{{A: 500}, {}, {}, {}}) || !slices.Equal(picks[:4], []int{7, 7, 8, 0}) {
		t.Error(specs, calls, picks)
	}
	given := append(make([]byte, 0, 40), want...)
	for range 3 {
		x, _, _ := script.Decode(given)
		if !same(x, s) {
			t.Error(x)
		}
		clear(x.Specs[:cap(x.Specs)])
		clear(x.Calls[:cap(x.Calls)])
		clear(x.Picks[:cap(x.Picks)])
	}
	if !bytes.Equal(given[:40], append(slices.Clone(want), make([]byte, 20)...)) {
		t.Error(given)
	}
	x, _, _ := script.Decode(given)
	clear(given)
	if !same(x, s) {
		t.Error(x)
	}
}
