package multi

import (
	"slices"

	"roundelay/loom"
)

// scan is the part with which both operations begin: it finds a number for each
// component, all as they were at one moment.
type scan struct {
	snapshot *snapshot
	present  []int       // by components: the addresses of records, or 0, that this collect has found
	before   []int       // those that the preceding collect found
	end      int         // the tick of the last access of that, 0 if there is none
	noted    map[int]int // by threads: the address of a record that came during the scan

	moment  int   // the tick at which the numbers were present, 0 as long as it is not known
	sources []int // the addresses of the numbers that are still to be found; 0 stands for the number 0
	numbers []uint64
}

// newScan returns a scan that has made no access.
func newScan(s *snapshot) scan {
	return scan{snapshot: s, noted: make(map[int]int)}
}

// advance makes the next access.
func (s *scan) advance(t loom.Turn) {
	if s.moment == 0 {
		s.collect(t)
	} else {
		s.take(t.Read(s.sources[0]))
	}
	for len(s.sources) > 0 && s.sources[0] == 0 {
		s.take(0)
	}
}

// ended tells whether all numbers have been found.
func (s *scan) ended() bool {
	return s.moment != 0 && len(s.sources) == 0
}

// take appends a number.
func (s *scan) take(number uint64) {
	s.numbers = append(s.numbers, number)
	s.sources = s.sources[1:]
}

// collect reads a cell; after the last one, it compares what was collected with
// what was collected before.
func (s *scan) collect(t loom.Turn) {
	cell := s.snapshot.cell(len(s.present))
	s.present = append(s.present, int(t.Read(cell)))
	if len(s.present) < s.snapshot.components {
		return
	}
	if s.end != 0 {
		s.compare()
	}
	s.before, s.end, s.present = s.present, t.Tick, nil
}

// compare finds out where the numbers are, unless another collect is needed.
func (s *scan) compare() {
	if slices.Equal(s.present, s.before) {
		s.agree()
		return
	}
	for component, record := range s.present {
		if record == s.before[component] {
			continue
		}
		thread := s.snapshot.owner(record)
		if earlier, ok := s.noted[thread]; ok {
			s.borrow(max(earlier, record))
			return
		}
		s.noted[thread] = record
	}
}

// agree takes the values of the records that were in the cells between two
// collects.
func (s *scan) agree() {
	s.moment = s.end
	s.sources = append(s.sources, s.present...)
}

// borrow takes the view of the later one of two records of a thread. The scan of
// its update was within this one: it began after the other record, which came
// during this one.
func (s *scan) borrow(record int) {
	s.moment = s.snapshot.moments[record]
	view := record + 1
	for component := range s.snapshot.components {
		s.sources = append(s.sources, view+component)
	}
}
