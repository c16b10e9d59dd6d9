package text

import (
	"slices"

	"roundelay/api"
)

// number is any type of numbers that lines have.
type number interface {
	~int | ~uint64
}

// named is a number with the word that tells what it is.
type named struct {
	name string
	n    int
}

// appendEvent appends the line of an event.
func appendEvent(b []byte, e api.Event) []byte {
	b = appendNumbers(b, e.Call, e.Inv, e.Resp, e.Steps, int(e.Answer.Err))
	b = append(b, ' ')
	b = appendNumber(b, e.Answer.Val)
	b = append(b, ' ')
	b = appendList(b, e.Answer.List)
	b = append(b, ' ')
	return appendList(b, e.Key)
}

// appendCall appends the line of a call.
func appendCall(b []byte, c api.Call) []byte {
	b = appendNumbers(b, c.Thread, c.Obj, c.Kind)
	b = append(b, ' ')
	return appendNumbers(b, c.A, c.B, c.C)
}

// appendNamed appends a line of numbers with their words, and its line feed.
func appendNamed(b []byte, l ...named) []byte {
	for i, x := range l {
		if i > 0 {
			b = append(b, ' ')
		}
		b = append(b, x.name...)
		b = append(b, ' ')
		b = appendNumber(b, x.n)
	}
	return append(b, '\n')
}

// appendList appends a list.
func appendList[T number](b []byte, l []T) []byte {
	b = append(b, '[')
	b = appendNumbers(b, l...)
	return append(b, ']')
}

// appendNumbers appends numbers, separated by single spaces.
func appendNumbers[T number](b []byte, l ...T) []byte {
	for i, x := range l {
		if i > 0 {
			b = append(b, ' ')
		}
		b = appendNumber(b, x)
	}
	return b
}

// appendNumber appends the digits of a number, with a minus sign if it is negative.
func appendNumber[T number](b []byte, x T) []byte {
	if x < 0 {
		b = append(b, '-')
	}
	begin := len(b)
	for first := true; first || x != 0; first = false {
		// Digits are negated one by one, as the least number has no opposite.
		d := x % 10
		if d < 0 {
			d = -d
		}
		b = append(b, '0'+byte(d))
		x /= 10
	}
	slices.Reverse(b[begin:])
	return b
}
