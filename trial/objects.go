package trial

import (
	"slices"

	"roundelay/api"
	"roundelay/bound"
	"roundelay/table"
)

// Specs returns objects of each Kind.
func Specs() []api.Spec {
	return []api.Spec{
		{Kind: api.Cell, P: 3}, {Kind: api.Cons}, {Kind: api.Tally}, {Kind: api.Adder}, {Kind: api.Max, P: 1}, {Kind: api.Max, P: 3},
		{Kind: api.Snap, P: 4}, {Kind: api.Multi, P: 2, Q: 6}, {Kind: api.Univ, P: 1, Q: 8}, {Kind: api.Univ, P: 3, Q: 30},
		{Kind: api.Queue, P: 2}, {Kind: api.Queue, P: 3, Q: 1}, {Kind: api.Queue, P: 4, Q: 3}, {Kind: api.Pin, P: 1}, {Kind: api.Pin, P: 3},
	}
}

// SomeSpecs returns so many of these objects, some of them several times.
func SomeSpecs(number func(below int) int, count int) []api.Spec {
	all := Specs()
	var specs []api.Spec
	for range count {
		specs = append(specs, all[number(len(all))])
	}
	return specs
}

// AnySpec makes an object of any Kind, mostly with few records, entries, or places.
func AnySpec(number func(below int) int) api.Spec {
	some := func(most int) int {
		if number(4) > 0 {
			most = min(most, 4)
		}
		return 1 + number(most)
	}
	s := api.Spec{Kind: number(10), P: some(8), Q: some(64)}
	switch s.Kind {
	case api.Cell, api.Snap:
		s.P = some(64)
	case api.Max:
		s.P = some(12)
	case api.Multi:
		s.P = some(16)
	case api.Univ:
		s.P = number(8)
	case api.Queue:
		s.P, s.Q = some(32), number(4)
	}
	return s
}

// CallsOn makes calls of operations of objects, by all threads.
func CallsOn(number func(below int) int, n int, specs []api.Spec, count int) []api.Call {
	var calls []api.Call
	for range count {
		obj := number(len(specs))
		calls = append(calls, api.Call{
			Thread: number(n),
			Obj:    obj,
			Kind:   number(table.Kinds(specs[obj])),
			A:      uint64(number(2)),
			B:      uint64(number(3)),
			C:      uint64(number(3)),
		})
	}
	return calls
}

// Spoiled returns the calls, some of them changed so that there is no such object
// or operation, or that an argument is far out of range.
func Spoiled(number func(below int) int, calls []api.Call) []api.Call {
	l := slices.Clone(calls)
	for i := range l {
		c := &l[i]
		switch number(40) {
		case 0:
			c.Obj = -1
		case 1:
			c.Obj += api.MaxObjs
		case 2:
			c.Kind = -1
		case 3:
			c.Kind += 4
		case 4:
			c.A += 1 << 40
		}
	}
	return l
}

// MostSteps returns the bound of a call: one that there is no operation for makes
// one step.
func MostSteps(n int, specs []api.Spec, c api.Call) int {
	if c.Obj < 0 || c.Obj >= len(specs) {
		return 1
	}
	most, e := bound.Most(n, specs[c.Obj], c.Kind)
	if e != api.OK {
		return 1
	}
	return most
}

// Bursts makes picks: a thread is mostly picked several times one after the other,
// so that some operations are overtaken by many others.
func Bursts(number func(below int) int, n, length int) []int {
	longest := 1 + number(30)
	var picks []int
	for len(picks) < length {
		picks = append(picks, slices.Repeat([]int{number(n)}, 1+number(longest))...)
	}
	return picks[:length]
}
