package snap

import (
	"roundelay/api"
	"roundelay/loom"
)

// cells is what a collect has found: for each thread the address of its record,
// or 0.
type cells [api.MaxThreads]uint64

// scan is the part with which both operations begin: it finds a number for each
// thread, all as they were at one moment.
type scan struct {
	snapshot *snapshot
	present  cells                // what this collect has found
	found    int                  // how many cells it has read
	before   cells                // what the preceding collect found
	end      int                  // the tick of the last access of that, 0 if there is none
	moved    [api.MaxThreads]bool // by threads: whether their cells have differed

	moment  int      // the tick at which the numbers were present, 0 as long as it is not known
	sources []uint64 // the addresses of the numbers that are still to be found; 0 stands for the number 0
	numbers []uint64
}

// advance makes the next access.
func (s *scan) advance(t loom.Turn) {
	if s.moment == 0 {
		s.collect(t)
	} else {
		s.take(t.Read(int(s.sources[0])))
	}
	for len(s.sources) > 0 && s.sources[0] == 0 {
		s.take(0)
	}
}

// ended tells whether all numbers have been found.
func (s *scan) ended() bool {
	return s.moment != 0 && len(s.sources) == 0
}

// take appends a number.
func (s *scan) take(number uint64) {
	s.numbers = append(s.numbers, number)
	s.sources = s.sources[1:]
}

// collect reads a cell; after the last one, it compares what was collected with
// what was collected before.
func (s *scan) collect(t loom.Turn) {
	s.present[s.found] = t.Read(s.snapshot.cell(s.found))
	s.found++
	if s.found < s.snapshot.threads {
		return
	}
	if s.end != 0 {
		s.compare()
	}
	s.before, s.end, s.found = s.present, t.Tick, 0
}

// compare finds out where the numbers are, unless another collect is needed.
func (s *scan) compare() {
	if s.present == s.before {
		s.agree()
		return
	}
	for thread, record := range s.present {
		if record == s.before[thread] {
			continue
		}
		if s.moved[thread] {
			s.borrow(record)
			return
		}
		s.moved[thread] = true
	}
}

// agree takes the values of the records that were in the cells between two
// collects.
func (s *scan) agree() {
	s.moment = s.end
	s.sources = append(s.sources, s.present[:s.snapshot.threads]...)
}

// borrow takes the view of a record. The scan of its update was within this one:
// it began after the preceding record of that thread, which came during this one.
func (s *scan) borrow(record uint64) {
	s.moment = s.snapshot.moments[int(record)]
	view := record + 1
	for thread := range s.snapshot.threads {
		s.sources = append(s.sources, view+uint64(thread))
	}
}
