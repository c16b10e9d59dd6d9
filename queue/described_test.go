package queue_test

import (
	"roundelay/api"
	"roundelay/trial"
)

// The fields of a node.
const (
	next = iota
	taker
	value
	mark
)

// The flags of a descriptor.
const (
	pending = 1
	takes   = 2
)

// at is the address of a field of the node i of a queue for n threads.
func at(n, i, field int) int {
	return 2 + n + 4*(i-1) + field
}

// ref is a reference to the node i with the version v.
func ref(i, v uint64) uint64 {
	return i + 1024*v
}

// stamp is a number with the version v.
func stamp(v, number uint64) uint64 {
	return v<<30 + number
}

// number is what is stamped.
func number(w uint64) uint64 {
	return w % (1 << 30)
}

// descriptor is the word of a descriptor.
func descriptor(flags, load, phase uint64) uint64 {
	return flags + 4*load + phase<<32
}

// load is that of a descriptor.
func load(d uint64) uint64 {
	return d >> 2 % (1 << 30)
}

// initial is the words of a queue.
func initial(n, k int) []uint64 {
	words := make([]uint64, 6+n+4*n*k)
	words[0], words[1], words[n+5] = 1, 1, 1
	return words
}

// isPut tells whether a call puts a value, and isTake whether it takes one.
func isPut(c api.Call) bool  { return c.Obj == 0 && c.Kind == 0 && c.A < 1<<24 }
func isTake(c api.Call) bool { return c.Obj == 0 && c.Kind == 1 }

// described is how the calls on a queue go on, as the chapter tells it.
func described(n, k, a int) trial.Next {
	examined := make([]int, n)
	next := trial.Straight(func(c api.Call, access func(trial.Access) uint64) api.Answer {
		w := walker{n: n, k: k, access: access}
		switch {
		case c.Obj != 0:
			return api.Answer{Err: api.ErrObj}
		case c.Kind != 0 && c.Kind != 1:
			return api.Answer{Err: api.ErrKind}
		case c.Kind == 0 && c.A >= 1<<24:
			return api.Answer{Err: api.ErrRange}
		case c.Kind == 0:
			return w.put(c.Thread, examined[c.Thread], a, c.A)
		}
		return w.take(c.Thread, examined[c.Thread], a)
	})
	return func(c api.Call, results []uint64) (trial.Access, api.Answer, bool) {
		a, answer, done := next(c, results)
		if done && (isPut(c) || isTake(c)) {
			examined[c.Thread] = (examined[c.Thread] + 1) % n
		}
		return a, answer, done
	}
}

// walker makes the accesses of a thread.
type walker struct {
	n, k   int
	access func(trial.Access) uint64
}

// read is R.
func (w walker) read(at int) uint64 {
	return w.access(trial.Access{Kind: 'R', At: at})
}

// write is W.
func (w walker) write(at int, x uint64) {
	w.access(trial.Access{Kind: 'W', At: at, X: x})
}

// swap is C.
func (w walker) swap(at int, x, y uint64) bool {
	return w.access(trial.Access{Kind: 'C', At: at, X: x, Y: y}) == 1
}

// field is the address of a field of the node to which a word refers.
func (w walker) field(ref uint64, field int) int {
	return at(w.n, int(ref%1024), field)
}

// finishTail finishes at the tail.
func (w walker) finishTail() {
	last := w.read(1)
	word := w.read(w.field(last, next))
	x := number(word)
	if word>>30 != last>>10 || x == 0 {
		return
	}
	owner := 2 + (int(x%1024)-2)/w.k
	d := w.read(owner)
	if d%4 == pending && load(d) == x {
		w.swap(owner, d, d-pending)
	}
	w.swap(1, last, x)
}

// finishHead finishes at the head.
func (w walker) finishHead() {
	first := w.read(0)
	word := w.read(w.field(first, next))
	x := number(word)
	if word>>30 != first>>10 || x == 0 {
		return
	}
	z := w.read(w.field(first, taker))
	if z>>30 != first>>10 || number(z) == 0 {
		return
	}
	if number(z) <= uint64(w.n) {
		at := 1 + int(number(z))
		d := w.read(at)
		if d%4 == pending+takes && load(d) == first {
			y := w.read(w.field(x, value))
			w.swap(at, d, descriptor(takes, y%(1<<24)+1, d>>32))
		}
	}
	if w.swap(0, first, x) {
		w.swap(w.field(first, mark), 2*(first>>10)+1, 2*(first>>10))
	}
}

// help helps the thread i if its descriptor d is pending.
func (w walker) help(i int, d uint64) {
	switch d % 4 {
	case pending:
		w.helpPut(i, d>>32)
	case pending + takes:
		w.helpTake(i, d>>32)
	}
}

// helpPut helps to put for the thread i, with the phase p.
func (w walker) helpPut(i int, p uint64) {
	for {
		d := w.read(2 + i)
		if d%4 != pending || d>>32 != p {
			return
		}
		last := w.read(1)
		word := w.read(w.field(last, next))
		if word>>30 != last>>10 {
			continue
		}
		if number(word) != 0 {
			w.finishTail()
			continue
		}
		d = w.read(2 + i)
		if d%4 != pending || d>>32 != p {
			return
		}
		if w.swap(w.field(last, next), word, stamp(last>>10, load(d))) {
			w.finishTail()
			return
		}
	}
}

// helpTake helps to take for the thread i, with the phase p.
func (w walker) helpTake(i int, p uint64) {
	for {
		d := w.read(2 + i)
		if d%4 != pending+takes || d>>32 != p {
			return
		}
		first := w.read(0)
		last := w.read(1)
		word := w.read(w.field(first, next))
		if w.read(0) != first {
			continue
		}
		if number(word) == 0 {
			if w.swap(2+i, d, descriptor(takes, 0, p)) {
				return
			}
			continue
		}
		if first == last {
			w.finishTail()
			continue
		}
		if load(d) != first && !w.swap(2+i, d, descriptor(pending+takes, first, p)) {
			continue
		}
		v := first >> 10
		w.swap(w.field(first, taker), stamp(v, 0), stamp(v, uint64(i+1)))
		w.finishHead()
	}
}

// announce announces an operation, and helps all whose phase is not above its own.
func (w walker) announce(t int, flags, load uint64) {
	var p uint64
	for i := range w.n {
		p = max(p, w.read(2+i)>>32)
	}
	p++
	w.write(2+t, descriptor(flags, load, p))
	for i := range w.n {
		if d := w.read(2 + i); d>>32 <= p {
			w.help(i, d)
		}
	}
}

// put puts a value for the thread t, which examines the thread c.
func (w walker) put(t, c, attempts int, a uint64) api.Answer {
	w.help(c, w.read(2+c))
	for i := 2 + t*w.k; i < 2+(t+1)*w.k; i++ {
		x := w.read(at(w.n, i, mark))
		if x%2 == 1 {
			continue
		}
		v := x/2 + 1
		w.write(at(w.n, i, mark), x+3)
		w.write(at(w.n, i, value), v<<32+a)
		w.write(at(w.n, i, next), stamp(v, 0))
		w.write(at(w.n, i, taker), stamp(v, 0))
		r := ref(uint64(i), v)
		for range attempts {
			last := w.read(1)
			word := w.read(w.field(last, next))
			if word>>30 != last>>10 {
				continue
			}
			if number(word) != 0 {
				w.finishTail()
				continue
			}
			done := w.swap(w.field(last, next), word, stamp(last>>10, r))
			w.finishTail()
			if done {
				return api.Answer{}
			}
		}
		w.announce(t, pending, r)
		return api.Answer{}
	}
	return api.Answer{Err: api.ErrFull}
}

// take takes a value for the thread t, which examines the thread c.
func (w walker) take(t, c, attempts int) api.Answer {
	w.help(c, w.read(2+c))
	for range attempts {
		first := w.read(0)
		last := w.read(1)
		word := w.read(w.field(first, next))
		if w.read(0) != first {
			continue
		}
		if number(word) == 0 {
			return api.Answer{Err: api.ErrEmpty}
		}
		if first == last {
			w.finishTail()
			continue
		}
		y := w.read(w.field(number(word), value))
		v := first >> 10
		done := w.swap(w.field(first, taker), stamp(v, 0), stamp(v, uint64(t+33)))
		w.finishHead()
		if done {
			return api.Answer{Val: y % (1 << 32)}
		}
	}
	w.announce(t, pending+takes, 0)
	d := w.read(2 + t)
	w.finishHead()
	if load(d) == 0 {
		return api.Answer{Err: api.ErrEmpty}
	}
	return api.Answer{Val: load(d) - 1}
}
