package desk_test

import (
	"bytes"
	"slices"
	"strconv"
	"strings"
	"testing"

	"roundelay/api"
	"roundelay/audit"
	"roundelay/run"
	"roundelay/script"
	"roundelay/text"
	"roundelay/trial"
)

// expected returns the results for bytes, as the chapter defines them.
func expected(b []byte) results {
	s, at, e := script.Decode(b)
	if e != api.OK {
		return all("script " + strconv.Itoa(int(e)) + " " + strconv.Itoa(at) + "\n")
	}
	r, e := run.Play(s.N, s.Specs, s.Calls, s.Picks)
	if e != api.OK {
		return all("play " + strconv.Itoa(int(e)) + "\n")
	}
	want := results{run: text.Report(s.Calls, r)}
	flaws := audit.Check(s.N, s.Specs, s.Calls, r)
	for _, f := range flaws {
		want.run += "flaw " + audit.Name(f.What) + " " + strconv.Itoa(f.At) + "\n"
	}
	if len(flaws) == 0 {
		want.run += "whole\n"
	}
	for i, c := range s.Calls {
		want.bounds += strconv.Itoa(i) + " " + strconv.Itoa(trial.MostSteps(s.N, s.Specs, c)) + "\n"
	}
	r, _, e = run.Whole(s.N, s.Specs, s.Calls)
	want.whole = text.Report(s.Calls, r)
	if e != api.OK {
		want.whole = "play " + strconv.Itoa(int(e)) + "\n"
	}
	return want
}

// checkLast checks how the results for bytes end (37.4), and tells whether there is no
// error.
func checkLast(t *testing.T, b []byte, r results) bool {
	t.Helper()
	lines := strings.SplitAfter(r.run, "\n")
	count := len(lines) - 1 // behind the last line feed there is nothing
	isWrong := count == 1 && (strings.HasPrefix(lines[0], "script ") || strings.HasPrefix(lines[0], "play "))
	if count < 1 || lines[count] != "" || !isWrong && lines[count-1] != "whole\n" {
		t.Fatalf("%v: %q", b, r.run)
	}
	for _, l := range []string{r.bounds, r.whole} {
		if isWrong && l != r.run || l != "" && !strings.HasSuffix(l, "\n") {
			t.Fatalf("%v: %q", b, r)
		}
	}
	return !isWrong
}

// anyScript makes a script of any objects and calls, some of which are wrong, and picks
// of threads some of which do not exist.
func anyScript(number func(below int) int) script.Script {
	s := script.Script{N: 1 + number(4)}
	if number(10) == 0 {
		s.N = 1 + number(api.MaxThreads)
	}
	s.Specs = trial.SomeSpecs(number, 1+number(4))
	if number(3) == 0 {
		s.Specs = append(s.Specs, trial.AnySpec(number))
	}
	for _, c := range trial.Spoiled(number, trial.CallsOn(number, s.N, s.Specs, number(40))) {
		// A script has room for no negative number.
		c.Obj, c.Kind = c.Obj&255, c.Kind&255
		s.Calls = append(s.Calls, c)
	}
	s.Picks = trial.Bursts(number, s.N+number(2), number(600))
	return s
}

// 37.1 to 37.4: plays of any objects have the results that the chapter defines, and are
// whole.
func TestPlays(t *testing.T) {
	number := trial.Numbers(37)
	for range 1500 {
		b := encode(t, anyScript(number))
		want := expected(b)
		checkResults(t, b, want)
		if !checkLast(t, b, want) {
			t.Fatal(b, want.run)
		}
	}
}

// 37.1 to 37.4: bytes of scripts some of which were changed, cut off, or left out have
// the results that the chapter defines, whether they are still a script or not.
func TestChangedBytes(t *testing.T) {
	number := trial.Numbers(3737)
	whole, wrong := 0, 0
	for range 3000 {
		s := anyScript(number)
		s.Calls = s.Calls[:min(len(s.Calls), 5)]
		b := encode(t, s)
		for range 1 + number(2) {
			at := number(len(b))
			switch number(4) {
			case 0:
				b = b[:at+1]
			case 1:
				b = slices.Delete(b, at, at+1)
			case 2:
				b = slices.Insert(b, at, byte(number(4)))
			default:
				b[at] = byte(number(256))
			}
			if len(b) == 0 {
				break
			}
		}
		r := of(b)
		if want := expected(b); r != want {
			t.Fatalf("%v: %q; want %q", b, r, want)
		}
		if checkLast(t, b, r) {
			whole++
		} else {
			wrong++
		}
	}
	if whole < 300 || wrong < 300 {
		t.Error(whole, wrong)
	}
}

// 37.4: any bytes have results, most of them the error of a script.
func TestAnyBytes(t *testing.T) {
	number := trial.Numbers(4)
	for range 20000 {
		var b []byte
		below := []int{3, 12, 256}[number(3)]
		for range number(40) {
			b = append(b, byte(number(below)))
		}
		checkLast(t, b, of(b))
	}
	for first := range 256 {
		for second := range 256 {
			b := []byte{byte(first), byte(second), 0, 0}
			checkLast(t, b, of(b))
		}
	}
}

// 37.1 to 37.3: scripts with as many calls and picks as there can be.
func TestMost(t *testing.T) {
	number := trial.Numbers(5)
	for _, spec := range append(trial.Specs(), api.Spec{Kind: api.Univ, P: 1, Q: 256}, api.Spec{Kind: api.Multi, P: 16, Q: 64}) {
		specs := slices.Repeat([]api.Spec{spec}, 2)
		s := script.Script{
			N:     api.MaxThreads,
			Specs: specs,
			Calls: trial.CallsOn(number, api.MaxThreads, specs, api.MaxCalls),
			Picks: trial.Bursts(number, api.MaxThreads, api.MaxPicks),
		}
		b := encode(t, s)
		r := of(b)
		if !checkLast(t, b, r) || strings.Count(r.bounds, "\n") != api.MaxCalls || strings.Count(r.whole, "\n") != api.MaxCalls+2 {
			t.Errorf("%v: %d bytes, %d bytes, %d bytes", spec, len(r.run), len(r.bounds), len(r.whole))
		}
	}
	b := bytes.Repeat([]byte{255}, 1<<20)
	if r := of(b); r != all("script 1 0\n") {
		t.Error(r)
	}
}
