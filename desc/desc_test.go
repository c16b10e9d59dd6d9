package desc_test

import (
	"math"
	"testing"

	"roundelay/api"
	"roundelay/desc"
)

const (
	loads  = 1 << 30 // how many loads there are
	phases = 1 << 32 // how many phases there are
)

// samples are words with bits at both ends of each part, in all places, and in turns.
func samples() []uint64 {
	l := []uint64{0, 1, 2, 3, math.MaxUint64, 0x0123456789abcdef, 0xfedcba9876543210, 0xaaaaaaaaaaaaaaaa, 0x5555555555555555}
	for i := range 64 {
		l = append(l, 1<<i, ^uint64(1<<i))
	}
	return l
}

// inRange are numbers below most, about both ends and between them.
func inRange(most uint64) []uint64 {
	return []uint64{0, 1, 2, 3, 7, most / 3, most / 2, most - 2, most - 1}
}

// outOfRange are numbers not below most.
func outOfRange(most uint64) []uint64 {
	return []uint64{most, most + 1, 2 * most, 3*most - 1, 1 << 63, math.MaxUint64 - most + 1, math.MaxUint64}
}

// descriptors are descriptors of all flags, with loads and phases about their ends.
func descriptors() []desc.Desc {
	var l []desc.Desc
	for flags := range 4 {
		for _, load := range inRange(loads) {
			for _, phase := range inRange(phases) {
				l = append(l, desc.Desc{Pending: flags&1 != 0, Take: flags&2 != 0, Load: load, Phase: phase})
			}
		}
	}
	return l
}

// wantWord adds up the word of a descriptor that is in range.
func wantWord(d desc.Desc) uint64 {
	w := 4*d.Load + phases*d.Phase
	if d.Pending {
		w++
	}
	if d.Take {
		w += 2
	}
	return w
}

// wantDesc takes a word apart by divisions.
func wantDesc(w uint64) desc.Desc {
	return desc.Desc{Pending: w%2 == 1, Take: w/2%2 == 1, Load: w / 4 % loads, Phase: w / phases}
}

// 19.1
func TestPack(t *testing.T) {
	for _, d := range descriptors() {
		if w, e := desc.Pack(d); w != wantWord(d) || e != api.OK {
			t.Errorf("%v: %#x, %v; want %#x", d, w, e, wantWord(d))
		}
	}
}

// 19.1: the chapter's example.
func TestPackOfTheExample(t *testing.T) {
	if w, e := desc.Pack(desc.Desc{Pending: true, Load: 3, Phase: 1}); w != 1+12+1<<32 || e != api.OK {
		t.Errorf("%#x, %v", w, e)
	}
	if d := desc.Unpack(1 + 12 + 1<<32); d != (desc.Desc{Pending: true, Load: 3, Phase: 1}) {
		t.Error(d)
	}
}

// 19.1
func TestPackOutOfRange(t *testing.T) {
	var l []desc.Desc
	for flags := range 4 {
		d := desc.Desc{Pending: flags&1 != 0, Take: flags&2 != 0}
		for _, load := range outOfRange(loads) {
			for _, phase := range append(inRange(phases), outOfRange(phases)...) {
				d.Load, d.Phase = load, phase
				l = append(l, d)
			}
		}
		for _, phase := range outOfRange(phases) {
			for _, load := range inRange(loads) {
				d.Load, d.Phase = load, phase
				l = append(l, d)
			}
		}
	}
	for _, d := range l {
		if w, e := desc.Pack(d); w != 0 || e != api.ErrRange {
			t.Errorf("%v: %#x, %v", d, w, e)
		}
	}
}

// 19.1
func TestUnpack(t *testing.T) {
	for _, w := range samples() {
		if d := desc.Unpack(w); d != wantDesc(w) {
			t.Errorf("%#x: %v; want %v", w, d, wantDesc(w))
		}
	}
}

// 19.2
func TestFinish(t *testing.T) {
	for _, w := range samples() {
		for _, load := range inRange(loads) {
			want := wantDesc(w)
			want.Pending, want.Load = false, load
			if got, e := desc.Finish(w, load); got != wantWord(want) || e != api.OK {
				t.Errorf("%#x, %d: %#x, %v; want %#x", w, load, got, e, wantWord(want))
			}
		}
	}
}

// 19.2
func TestLoad(t *testing.T) {
	for _, w := range samples() {
		for _, load := range inRange(loads) {
			want := wantDesc(w)
			want.Load = load
			if got, e := desc.Load(w, load); got != wantWord(want) || e != api.OK {
				t.Errorf("%#x, %d: %#x, %v; want %#x", w, load, got, e, wantWord(want))
			}
		}
	}
}

// 19.2
func TestLoadsOutOfRange(t *testing.T) {
	for _, w := range samples() {
		for _, load := range outOfRange(loads) {
			if got, e := desc.Finish(w, load); got != 0 || e != api.ErrRange {
				t.Errorf("Finish(%#x, %#x): %#x, %v", w, load, got, e)
			}
			if got, e := desc.Load(w, load); got != 0 || e != api.ErrRange {
				t.Errorf("Load(%#x, %#x): %#x, %v", w, load, got, e)
			}
		}
	}
}

// 19.2: of all phases, and of both ways, a pending descriptor waits for one alone.
func TestWaits(t *testing.T) {
	for _, w := range samples() {
		d := wantDesc(w)
		for _, phase := range append(inRange(phases), d.Phase, d.Phase^1, d.Phase^1<<31, d.Phase+phases) {
			for _, take := range []bool{false, true} {
				want := d.Pending && d.Phase == phase && d.Take == take
				if got := desc.Waits(w, phase, take); got != want {
					t.Errorf("Waits(%#x, %#x, %v): %v", w, phase, take, got)
				}
			}
		}
	}
}

// 19.2: the load says nothing of what a descriptor waits for.
func TestWaitsWithAnyLoad(t *testing.T) {
	for _, load := range inRange(loads) {
		if !desc.Waits(1+4*load+9*phases, 9, false) || !desc.Waits(3+4*load+9*phases, 9, true) {
			t.Error(load)
		}
	}
}

// 19.2: there are no phases above the last one, so nothing waits with one.
func TestWaitsWithNoPhase(t *testing.T) {
	for _, w := range samples() {
		for _, phase := range outOfRange(phases) {
			if desc.Waits(w, phase, false) || desc.Waits(w, phase, true) {
				t.Errorf("%#x waits with the phase %#x", w, phase)
			}
		}
	}
}

// 19.3
func TestEachWordHasOneDescriptor(t *testing.T) {
	for _, w := range samples() {
		if got, e := desc.Pack(desc.Unpack(w)); got != w || e != api.OK {
			t.Errorf("%#x: %#x, %v", w, got, e)
		}
	}
	words := map[uint64]desc.Desc{}
	for _, d := range descriptors() {
		w, e := desc.Pack(d)
		if e != api.OK || desc.Unpack(w) != d {
			t.Errorf("%v: %#x, %v, %v", d, w, e, desc.Unpack(w))
		}
		if other, ok := words[w]; ok {
			t.Errorf("%v and %v have the word %#x", d, other, w)
		}
		words[w] = d
	}
}

// 19.4
func TestFinishedDescriptorsWaitForNothing(t *testing.T) {
	for _, w := range samples() {
		for _, load := range inRange(loads) {
			done, e := desc.Finish(w, load)
			if e != api.OK {
				t.Fatal(w, load, e)
			}
			for _, phase := range []uint64{0, 1, wantDesc(w).Phase, phases - 1} {
				if desc.Waits(done, phase, false) || desc.Waits(done, phase, true) {
					t.Errorf("%#x waits with the phase %d", done, phase)
				}
			}
		}
	}
}
