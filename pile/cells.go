package pile

import "dredge/api"

// unset is what a cell has that was never set.
const unset = -1

// undo is what takes a Set back: the cell, and what it had ahead of that Set.
type undo struct{ cell, was int }

// Cells are numbered places with numbers, that can go back to what they were.
type Cells struct {
	values []int
	undos  *Pile[undo] // one for each Set that may be taken back
}

// NewCells is so many places, all with -1.
func NewCells(n int) (*Cells, api.Errno) {
	if n < 0 || n > api.MaxRoom {
		return nil, api.ErrArg
	}
	c := &Cells{values: make([]int, n), undos: New[undo]()}
	for i := range c.values {
		c.values[i] = unset
	}
	return c, api.OK
}

// Get is what a place has.
func (c *Cells) Get(i int) (int, bool) {
	if !c.has(i) {
		return 0, false
	}
	return c.values[i], true
}

// Set lays something there.
func (c *Cells) Set(i, v int) api.Errno {
	if !c.has(i) {
		return api.ErrArg
	}
	c.undos.Push(undo{cell: i, was: c.values[i]})
	c.values[i] = v
	return api.OK
}

// Values is what all places have.
func (c *Cells) Values() []int {
	l := make([]int, len(c.values))
	copy(l, c.values)
	return l
}

// Mark is how many Sets can be taken back.
func (c *Cells) Mark() int { return c.undos.Len() }

// Back takes back the Sets behind a mark.
func (c *Cells) Back(mark int) api.Errno {
	if mark < 0 || mark > c.Mark() {
		return api.ErrArg
	}
	for c.Mark() > mark {
		last, _ := c.undos.Pop()
		c.values[last.cell] = last.was
	}
	return api.OK
}

// has tells whether there is such a place.
func (c *Cells) has(i int) bool { return i >= 0 && i < len(c.values) }
