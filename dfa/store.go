package dfa

import (
	"dredge/api"
	"dredge/table"
)

// store keeps states, and to which of them each leads; when there is no room for one more, it gives up all.
//
// A state's number is its place in states. A table of steps has entries for some states alone, as many as can never fill it.
type store struct {
	room    int
	states  []state
	numbers map[state]int
	starts  map[way]int
	share   int            // for how many states there is one table
	steps   []*table.Table // from a state, by a kind of bytes, to a state
	flushes int
}

// newStore keeps at most so many states, which know so many kinds of bytes.
func newStore(room, kinds int) *store {
	s := &store{room: room, numbers: map[state]int{}, starts: map[way]int{}, share: api.MaxEntries / kinds}
	for first := 0; first < room; first += s.share {
		// A state's number, and a kind: no wrong width, so there is no error.
		t, _ := table.New(2, api.MaxEntries)
		s.steps = append(s.steps, t)
	}
	return s
}

// next is the state to which a state leads by a kind of bytes, if that is known.
func (s *store) next(from, kind int) (int, bool) {
	return s.steps[from/s.share].Get([]int{from, kind})
}

// keepNext keeps a state to which another one leads by a kind of bytes.
func (s *store) keepNext(from, kind int, to state) int {
	flushes := s.flushes
	number := s.keep(to)
	// Where the former was given up, its number is another one's by now.
	if s.flushes == flushes {
		s.steps[from/s.share].Put([]int{from, kind}, number)
	}
	return number
}

// keepStart keeps a state in which a walk begins.
func (s *store) keepStart(w way, to state) int {
	number := s.keep(to)
	s.starts[w] = number
	return number
}

// keep is the number of a state that is kept from now on.
func (s *store) keep(made state) int {
	if number, there := s.numbers[made]; there {
		return number
	}
	if len(s.states) == s.room {
		s.flush()
	}
	number := len(s.states)
	s.states = append(s.states, made)
	s.numbers[made] = number
	return number
}

// flush gives up all states.
func (s *store) flush() {
	s.flushes++
	clear(s.numbers)
	clear(s.starts)
	for _, t := range s.steps {
		t.Clear()
	}
	// Cleared, so that what the states stood for is not kept.
	clear(s.states)
	s.states = s.states[:0]
}
