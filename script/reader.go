package script

import (
	"roundelay/api"
)

// reader reads the bytes of a script, from the first to the last one. It stops at the
// first error by panicking with a fault, so that what it reads is always right.
type reader struct {
	b  []byte
	at int // the position of the next byte
}

// fault is an error, and the position of the byte at which it occurs.
type fault struct {
	at int
	e  api.Errno
}

// script reads a whole script.
func (r *reader) script() Script {
	n := r.threads()
	specs := r.specs()
	calls := r.calls(n)
	return Script{N: n, Specs: specs, Calls: calls, Picks: r.picks()}
}

// threads reads the number of threads.
func (r *reader) threads() int {
	at := r.at
	n := r.next()
	if n < 1 || n > api.MaxThreads {
		panic(fault{at, api.ErrArg})
	}
	return n
}

// specs reads the objects.
func (r *reader) specs() []api.Spec {
	at := r.at
	count := r.next()
	if count > api.MaxObjs {
		panic(fault{at, api.ErrLong})
	}
	var specs []api.Spec
	for range count {
		var s api.Spec
		s.Kind = r.next()
		s.P = r.pair()
		s.Q = r.pair()
		specs = append(specs, s)
	}
	return specs
}

// calls reads the calls of so many threads.
func (r *reader) calls(n int) []api.Call {
	at := r.at
	count := r.pair()
	if count > api.MaxCalls {
		panic(fault{at, api.ErrLong})
	}
	var calls []api.Call
	for range count {
		calls = append(calls, r.call(n))
	}
	return calls
}

// call reads a call of one of so many threads.
func (r *reader) call(n int) api.Call {
	var c api.Call
	at := r.at
	c.Thread = r.next()
	if c.Thread >= n {
		panic(fault{at, api.ErrRange})
	}
	c.Obj = r.next()
	c.Kind = r.next()
	c.A = r.varint()
	c.B = r.varint()
	c.C = r.varint()
	return c
}

// picks reads runs up to the end.
func (r *reader) picks() []int {
	var picks []int
	lastThread, lastCount := -1, 0
	for r.at < len(r.b) {
		at := r.at
		thread := r.next()
		count := r.next()
		if count == 0 || thread == lastThread && lastCount < maxByte {
			panic(fault{at, api.ErrForm})
		}
		if len(picks)+count > api.MaxPicks {
			panic(fault{at, api.ErrLong})
		}
		for range count {
			picks = append(picks, thread)
		}
		lastThread, lastCount = thread, count
	}
	return picks
}

// next reads a byte.
func (r *reader) next() int {
	if r.at == len(r.b) {
		panic(fault{r.at, api.ErrShort})
	}
	x := r.b[r.at]
	r.at++
	return int(x)
}

// pair reads a number of two bytes.
func (r *reader) pair() int {
	high := r.next()
	return high<<8 + r.next()
}

// varint reads a varint.
func (r *reader) varint() uint64 {
	var x uint64
	for i := 0; ; i++ {
		at := r.at
		next := r.next()
		// The last byte of the longest varint has room for one bit.
		if i == maxVarint-1 && next > 1 || i > 0 && next == 0 {
			panic(fault{at, api.ErrForm})
		}
		x |= uint64(next&127) << (7 * i)
		if next < 128 {
			return x
		}
	}
}
