package desk

import (
	"strings"
	"testing"

	"roundelay/audit"
)

// 37.1: a line for each flaw, and one that tells that there is none. As no play has a
// flaw (34.3), these are written by hand.
func TestFlaws(t *testing.T) {
	for _, x := range []struct {
		flaws []audit.Flaw
		want  string
	}{
		{nil, "whole\n"},
		{[]audit.Flaw{}, "whole\n"},
		{[]audit.Flaw{{What: 1, At: -1}}, "flaw table -1\n"},
		{[]audit.Flaw{{What: 2, At: -1}}, "flaw history -1\n"},
		{
			[]audit.Flaw{{What: 3, At: 0}, {What: 4, At: 0}, {What: 4, At: 999}, {What: 5, At: -1}, {What: 6, At: 12}, {What: 7, At: -1}, {What: 8, At: -1}},
			"flaw bound 0\nflaw key 0\nflaw key 999\nflaw ahead -1\nflaw answer 12\nflaw steps -1\nflaw accesses -1\n",
		},
	} {
		var l strings.Builder
		writeFlaws(&l, x.flaws)
		if l.String() != x.want {
			t.Errorf("%v: %q; want %q", x.flaws, l.String(), x.want)
		}
	}
}
