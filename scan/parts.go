package scan

import (
	"slices"

	"dredge/dfa"
)

// behind is the automaton that goes over a line from behind, and tells where parts begin.
type behind struct{ *dfa.DFA }

// forth is the automaton that goes forth from where a part begins, as far as it can.
type forth struct{ *dfa.DFA }

// begin is where the first part of a line begins, from a place on, if there is one. That is a place, too: with bytes no part begins within a character, and one without bytes that is there, far from the line's ends, is at every place, so at the first one.
func (b behind) begin(line string, from int) (int, bool) {
	// Of what stands ahead one byte is left: else the line would seem to begin here.
	rest := line[max(0, from-1):]
	ends, _ := b.Ends(turned(rest), 0)
	for _, end := range slices.Backward(ends) {
		if at := len(line) - end; at >= from {
			return at, true
		}
	}
	return 0, false
}

// end is up to where the longest part goes that begins at a place where one does.
func (f forth) end(line string, at int) int {
	to, _, _ := f.Longest(line, at)
	return to
}

// turned is a line's bytes, the last one first.
func turned(line string) string {
	l := []byte(line)
	slices.Reverse(l)
	return string(l)
}
