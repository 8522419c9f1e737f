package compare

import (
	"slices"
	"strings"
)

// pair is a number of each of two automata.
type pair struct{ a, b int }

// arrival is a pair of states, and how the least line that leads to it ends: from which arrival, and by which bytes.
type arrival struct {
	states pair
	from   int
	text   string
}

// way leads on from an arrival by steps whose first bytes, so many as have been read, are the same.
type way struct {
	from  int
	steps []step
	read  int
}

// search goes through the pairs of states of two automata in the order of the least lines that lead to them. A byte is read at a time, and ways that have read as many wait in the order of their bytes: so a shorter line comes ahead of a longer one, in bytes, however many its characters have.
type search struct {
	a, b     automaton
	steps    []step
	sought   func(inA, inB bool) bool
	known    map[pair]int // which arrival each one has
	arrivals []arrival
	waiting  []way
}

// least is the least line that is sought.
func (s *search) least() (string, bool) {
	found := s.arrive(arrival{})
	for !found && len(s.waiting) > 0 {
		w := s.waiting[0]
		s.waiting = s.waiting[1:]
		found = s.goOn(w)
	}
	if !found {
		return "", false
	}
	return s.lastLine(), true
}

// goOn goes a way on by a byte, whichever there is: has a pair been found?
func (s *search) goOn(w way) bool {
	for rest := w.steps; len(rest) > 0; {
		first := rest[0]
		alike := 1
		for alike < len(rest) && rest[alike].text[w.read] == first.text[w.read] {
			alike++
		}
		if w.read+1 < len(first.text) {
			s.waiting = append(s.waiting, way{w.from, rest[:alike], w.read + 1})
		} else if s.arrive(s.behind(w.from, first)) {
			return true
		}
		rest = rest[alike:]
	}
	return false
}

// behind is the arrival that a step leads to.
func (s *search) behind(from int, by step) arrival {
	at := s.arrivals[from].states
	next := pair{s.a.moves[at.a][by.kinds.a], s.b.moves[at.b][by.kinds.b]}
	return arrival{next, from, by.text}
}

// arrive takes an arrival up, if it is its pair's first one: is the pair one that is sought?
func (s *search) arrive(at arrival) bool {
	if _, known := s.known[at.states]; known {
		return false
	}
	s.known[at.states] = len(s.arrivals)
	s.waiting = append(s.waiting, way{from: len(s.arrivals), steps: s.steps})
	s.arrivals = append(s.arrivals, at)
	return s.sought(s.a.in[at.states.a], s.b.in[at.states.b])
}

// lastLine is the line that led to the last arrival.
func (s *search) lastLine() string {
	var texts []string
	for at := len(s.arrivals) - 1; at > 0; at = s.arrivals[at].from {
		texts = append(texts, s.arrivals[at].text)
	}
	slices.Reverse(texts)
	return strings.Join(texts, "")
}
