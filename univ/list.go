package univ

// wordType is all types whose values are words.
type wordType interface {
	~uint64
}

// list is a list of words that grows.
type list[W wordType] struct {
	words []W
}

// add puts a word at the end.
func (l *list[W]) add(w W) {
	l.words = append(l.words, w)
}

// size returns the number of words.
func (l *list[W]) size() int {
	return len(l.words)
}

// last returns the last word of which something holds, and 0 if it holds of none.
func (l *list[W]) last(holds func(w W) bool) W {
	for i := len(l.words) - 1; i >= 0; i-- {
		if holds(l.words[i]) {
			return l.words[i]
		}
	}
	return 0
}
