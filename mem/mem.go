// Package mem implements the memory that threads share, and the four kinds of
// accesses to its words: layer 2 of the document, chapter doc/02-mem.md.
package mem

import (
	"roundelay/api"
)

// Memory is words that threads share, and the numbers of accesses to them.
type Memory struct {
	words  []uint64
	counts api.Counts
}

// New returns a memory with these words, the first one at the address 0.
func New(words []uint64) (*Memory, api.Errno) {
	if len(words) > api.MaxWords {
		return nil, api.ErrLong
	}
	return &Memory{words: duplicate(words)}, api.OK
}

// Read returns the word at a.
func (m *Memory) Read(a int) uint64 {
	var v uint64
	m.access(a, func(word *uint64) {
		m.counts.Read++
		v = *word
	})
	return v
}

// Write sets the word at a to v.
func (m *Memory) Write(a int, v uint64) {
	m.access(a, func(word *uint64) {
		m.counts.Write++
		*word = v
	})
}

// Swap sets the word at a to fresh if it is old, and tells whether it was.
func (m *Memory) Swap(a int, old, fresh uint64) bool {
	done := false
	m.access(a, func(word *uint64) {
		m.counts.Swap++
		if *word == old {
			*word = fresh
			done = true
		}
	})
	return done
}

// Add adds d to the word at a, and returns what the word was.
func (m *Memory) Add(a int, d uint64) uint64 {
	var was uint64
	m.access(a, func(word *uint64) {
		m.counts.Add++
		was = *word
		*word += d
	})
	return was
}

// Len returns the number of words.
func (m *Memory) Len() int {
	if m == nil {
		return 0
	}
	return len(m.words)
}

// Words returns the words.
func (m *Memory) Words() []uint64 {
	if m == nil {
		return nil
	}
	return duplicate(m.words)
}

// Counts returns the numbers of accesses of each kind.
func (m *Memory) Counts() api.Counts {
	if m == nil {
		return api.Counts{}
	}
	return m.counts
}

// access calls do with the word at a if the memory has it, and counts a fault
// otherwise, so that no kind of access has to check an address by itself.
func (m *Memory) access(a int, do func(word *uint64)) {
	if m == nil {
		return
	}
	if a < 0 || a >= len(m.words) {
		m.counts.Fault++
		return
	}
	do(&m.words[a])
}

// duplicate returns new memory, as a memory shares none with its callers.
func duplicate(words []uint64) []uint64 {
	l := make([]uint64, len(words))
	copy(l, words)
	return l
}
