package hunt

import (
	"dredge/api"
	"dredge/sets"
)

// waiting is the words that have been found, and are not told yet, since others may come in that stand ahead of them. The places at which they stand lie less far from one another than there are cells, so that each has a cell of its own.
type waiting struct {
	cells []api.Set
	next  int // the first place of which nothing has been told
}

// newWaiting is one for words of so many bytes at most.
func newWaiting(longest int) *waiting {
	return &waiting{cells: make([]api.Set, longest)}
}

// cell is which words stand at a place.
func (w *waiting) cell(place int) *api.Set { return &w.cells[place%len(w.cells)] }

// put says that words stand at a place.
func (w *waiting) put(place int, words api.Set) {
	c := w.cell(place)
	*c = sets.Or(*c, words)
}

// tell takes out all that stand ahead of a place, and tells them in their order, as long as they are wanted: it tells whether they still are.
func (w *waiting) tell(place int, yield func(int, int) bool) bool {
	for ; w.next < place; w.next++ {
		c := w.cell(w.next)
		for word := range sets.All(*c) {
			if !yield(w.next, word) {
				return false
			}
		}
		*c = api.Set{}
	}
	return true
}
