package tally

// ticks is a list of ticks that grows.
type ticks struct {
	room []int
	used int
}

// add puts a tick at the end of the list.
func (l *ticks) add(tick int) {
	if l.used == len(l.room) {
		l.grow()
	}
	l.room[l.used] = tick
	l.used++
}

// grow doubles the room, so that a tick is copied only a few times however long
// the list becomes.
func (l *ticks) grow() {
	wider := make([]int, 2*l.used+1)
	copy(wider, l.room)
	l.room = wider
}

// nth returns the k-th tick from 1 on, and 0, which is no tick, for k 0.
func (l *ticks) nth(k uint64) int {
	if k == 0 {
		return 0
	}
	return l.room[k-1]
}
