package back

import (
	"dredge/api"
	"dredge/pile"
)

// How many cells a group has, and how many a counter.
const (
	ofGroup   = 3
	ofCounter = 2
)

// state is what groups and counters are, in cells that go back: of each group where it began last, and where its part begins and ends; behind all these, of each counter one less than how many turns it has had, and where the last one began. What there is not is none, as all cells are at first.
type state struct {
	*pile.Cells
	counters int // the first cell of a counter
	end      int
}

func newState(b bare) state {
	s := state{counters: ofGroup * b.groups}
	s.end = s.counters + ofCounter*len(b.bounds)
	// A right program has few groups and counters: there is no error.
	s.Cells, _ = pile.NewCells(s.end)
	return s
}

// cell is what a cell has.
func (s state) cell(i int) int {
	v, _ := s.Get(i)
	return v
}

// isFresh tells whether no group has a part or has begun, and no counter has had a turn.
func (s state) isFresh() bool {
	for i := range s.end {
		if s.cell(i) != none {
			return false
		}
	}
	return true
}

// open lets a group begin, close end: if it has begun nowhere, where it ends.
func (s state) open(group, place int) { s.Set(ofGroup*group, place) }
func (s state) close(group, place int) {
	from := s.cell(ofGroup * group)
	if from == none {
		from = place
	}
	s.Set(ofGroup*group+1, from)
	s.Set(ofGroup*group+2, place)
}

// part is what a group has, if it has one.
func (s state) part(group int) (api.Span, bool) {
	from, to := s.cell(ofGroup*group+1), s.cell(ofGroup*group+2)
	return api.Span{From: from, To: to}, from != none
}

// turns is how many turns a counter has had, turned where the last one began.
func (s state) turns(counter int) int  { return s.cell(s.counters+ofCounter*counter) + 1 }
func (s state) turned(counter int) int { return s.cell(s.counters + ofCounter*counter + 1) }

// count lets a counter have had so many turns, the last of which began at a place, or none.
func (s state) count(counter, turns, turned int) {
	s.Set(s.counters+ofCounter*counter, turns-1)
	s.Set(s.counters+ofCounter*counter+1, turned)
}
