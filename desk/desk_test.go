package desk_test

import (
	"bytes"
	"math"
	"slices"
	"testing"

	"roundelay/api"
	"roundelay/desk"
	"roundelay/script"
)

// encode returns the bytes of a script, which must exist.
func encode(t *testing.T, s script.Script) []byte {
	t.Helper()
	b, e := script.Encode(s)
	if e != api.OK {
		t.Fatalf("Encode(%v): %v", s, e)
	}
	return b
}

// results are the lines that the functions of the package return.
type results struct {
	run, bounds, whole string
}

// of returns the results for bytes.
func of(b []byte) results {
	return results{desk.Run(b), desk.Bounds(b), desk.Whole(b)}
}

// all are the results that are the same line.
func all(line string) results {
	return results{line, line, line}
}

// checkResults compares the results for bytes with those that they must have.
func checkResults(t *testing.T, b []byte, want results) {
	t.Helper()
	if r := of(b); r != want {
		t.Errorf("%v: %q; want %q", b, r, want)
	}
}

// 37.1, 37.2, 37.3: a script that is wrong, with the error and its position.
func TestWrongScript(t *testing.T) {
	long := append([]byte{1, 0, 0, 0}, bytes.Repeat([]byte{3, 255}, 258)...)
	for _, x := range []struct {
		b    []byte
		want string
	}{
		{nil, "script 4 0\n"},
		{[]byte{}, "script 4 0\n"},
		{[]byte{1}, "script 4 1\n"},
		{[]byte{1, 1, 1, 0}, "script 4 4\n"},
		{[]byte{0}, "script 1 0\n"},
		{[]byte{17, 255}, "script 1 0\n"},
		{[]byte{2, 9}, "script 3 1\n"},
		{[]byte{2, 0, 3, 233}, "script 3 2\n"},
		{[]byte{2, 0, 0, 1, 2}, "script 10 4\n"},
		{[]byte{2, 0, 0, 1, 1, 0, 0, 128, 0}, "script 5 8\n"},
		{[]byte{2, 0, 0, 0, 1, 0}, "script 5 4\n"},
		{[]byte{2, 0, 0, 0, 1, 1, 1, 1}, "script 5 6\n"},
		{[]byte{2, 0, 0, 0, 1, 1, 1}, "script 4 7\n"},
		{long, "script 3 518\n"},
		// Whatever is wrong with the bytes comes before a wrong play.
		{[]byte{1, 1, 77, 0, 0, 0, 0, 0, 0, 0, 0}, "script 5 9\n"},
	} {
		checkResults(t, x.b, all(x.want))
	}
}

// 37.1, 37.2, 37.3: a play that is wrong, with the error alone.
func TestWrongPlay(t *testing.T) {
	calls := []api.Call{{Thread: 1, A: 5}, {}}
	for _, x := range []struct {
		specs []api.Spec
		want  string
	}{
		{[]api.Spec{{Kind: 10}}, "play 9\n"},
		{[]api.Spec{{Kind: 255, P: 65535, Q: 65535}}, "play 9\n"},
		{[]api.Spec{{Kind: api.Cell}}, "play 10\n"},
		{[]api.Spec{{Kind: api.Cell, P: 65}}, "play 10\n"},
		{[]api.Spec{{Kind: api.Univ, P: 8, Q: 1}}, "play 10\n"},
		{[]api.Spec{{Kind: api.Cons}, {Kind: api.Max, P: 13}, {Kind: 10}}, "play 10\n"},
		{[]api.Spec{{Kind: api.Cons}, {Kind: 10}, {Kind: api.Max, P: 13}}, "play 9\n"},
		{slices.Repeat([]api.Spec{{Kind: api.Snap, P: 64}}, 4), "play 3\n"},
	} {
		for _, c := range [][]api.Call{nil, calls} {
			checkResults(t, encode(t, script.Script{N: 16, Specs: x.specs, Calls: c, Picks: []int{0, 1}}), all(x.want))
		}
	}
}

// 37.1, 37.2, 37.3: nothing is played; a script without objects, whose calls respond
// with an error; and one whose picks are of no thread.
func TestNothing(t *testing.T) {
	const none = "ticks 0 idle 0\nreads 0 writes 0 swaps 0 adds 0 faults 0\n"
	checkResults(t, []byte{1, 0, 0, 0}, results{none + "whole\n", "", none})
	checkResults(t, []byte{16, 1, 9, 0, 8, 0, 0, 0, 0, 16, 255, 16, 2}, results{
		"ticks 0 idle 257\nreads 0 writes 0 swaps 0 adds 0 faults 0\nwhole\n", "", none,
	})
	b := encode(t, script.Script{N: 2, Calls: []api.Call{{Thread: 1, Obj: 255, Kind: 7, A: 1, B: 2, C: math.MaxUint64}}, Picks: []int{1, 1}})
	const line = "1 255 7 1 2 18446744073709551615: 0 1 1 1 12 0 [] [2]\n"
	checkResults(t, b, results{
		line + "ticks 1 idle 1\nreads 0 writes 0 swaps 0 adds 0 faults 0\nwhole\n",
		"0 1\n",
		line + "ticks 1 idle 0\nreads 0 writes 0 swaps 0 adds 0 faults 0\n",
	})
}

// 37.1, 37.2, 37.3: a play with an event that has not responded, and a call that was
// not invoked; a list in an answer; picks do not matter for Bounds and Whole.
func TestLines(t *testing.T) {
	s := script.Script{
		N:     2,
		Specs: []api.Spec{{Kind: api.Pin, P: 1}, {Kind: api.Tally}},
		Calls: []api.Call{{A: 300}, {Thread: 1, Kind: 1}, {Obj: 1}, {Thread: 1, Obj: 1, Kind: 1}},
		Picks: []int{0, 0, 0, 0, 0, 1, 1, 1, 1, 0},
	}
	checkResults(t, encode(t, s), results{
		run: "0 0 0 300 0 0: 0 1 3 3 0 0 [] [6]\n" +
			"0 1 0 0 0 0: 2 4 5 2 0 0 [] [10]\n" +
			"1 0 1 0 0 0: 1 6 8 3 0 0 [300] [12]\n" +
			"1 1 1 0 0 0: 3 9 0 1 0 0 [] []\n" +
			"ticks 9 idle 1\n" +
			"reads 4 writes 2 swaps 0 adds 3 faults 0\n" +
			"whole\n",
		bounds: "0 4\n1 3\n2 2\n3 2\n",
		whole: "0 0 0 300 0 0: 0 1 3 3 0 0 [] [6]\n" +
			"1 0 1 0 0 0: 1 4 6 3 0 0 [300] [8]\n" +
			"0 1 0 0 0 0: 2 7 8 2 0 0 [] [16]\n" +
			"1 1 1 0 0 0: 3 9 10 2 0 1 [] [18 20]\n" +
			"ticks 10 idle 0\n" +
			"reads 5 writes 2 swaps 0 adds 3 faults 0\n",
	})
}

// 37.2: bounds of operations of each Kind, for five threads; those of calls that no
// object, or no operation is there for.
func TestBounds(t *testing.T) {
	s := script.Script{
		N: 5,
		Specs: []api.Spec{
			{Kind: api.Tally}, {Kind: api.Max, P: 7}, {Kind: api.Snap, P: 2}, {Kind: api.Multi, P: 3, Q: 2},
			{Kind: api.Univ, P: 2, Q: 4}, {Kind: api.Queue, P: 3, Q: 1}, {Kind: api.Pin, P: 2}, {Kind: api.Cons},
		},
		Picks: []int{0, 0, 1},
	}
	var want string
	for _, x := range []struct {
		obj, kind int
		line      string
	}{
		{0, 0, "0 2\n"}, {0, 1, "1 5\n"}, {0, 2, "2 1\n"}, {0, 255, "3 1\n"},
		{1, 0, "4 7\n"}, {1, 1, "5 7\n"}, {1, 2, "6 1\n"},
		{2, 0, "7 42\n"}, {2, 1, "8 35\n"}, {3, 0, "9 26\n"}, {3, 1, "10 21\n"},
		{4, 0, "11 17\n"}, {4, 1, "12 17\n"}, {4, 7, "13 1\n"},
		{5, 1, "14 5262\n"}, {6, 0, "15 8\n"}, {6, 1, "16 4\n"},
		{7, 0, "17 2\n"}, {7, 1, "18 1\n"}, {8, 0, "19 1\n"}, {255, 1, "20 1\n"},
	} {
		s.Calls = append(s.Calls, api.Call{Thread: 4, Obj: x.obj, Kind: x.kind, A: math.MaxUint64})
		want += x.line
	}
	if l := desk.Bounds(encode(t, s)); l != want {
		t.Errorf("%q; want %q", l, want)
	}
}

// R4: the bytes remain what they are, with their spare capacity. R5: the same bytes
// have the same results.
func TestBytesRemain(t *testing.T) {
	b := encode(t, script.Script{N: 1, Specs: []api.Spec{{Kind: api.Cons}}, Calls: []api.Call{{A: 9}}, Picks: []int{0, 0, 0}})
	spare := append(bytes.Clone(b), 0, 1, 255)
	before := bytes.Clone(spare)
	first := of(spare[:len(b)])
	if second := of(spare[:len(b)]); first != second || first != of(b) {
		t.Error(first, second)
	}
	if !bytes.Equal(spare, before) {
		t.Error(spare)
	}
}
