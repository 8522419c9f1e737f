package pile_test

import (
	"math"
	"slices"
	"testing"

	"dredge/api"
	"dredge/pile"
)

// laid is one Set: the cell, and what it was to have.
type laid struct{ cell, value int }

// cellModel is cells written out as the Sets that may be taken back, so that the calls are held against something that remembers nothing of what was there before.
type cellModel struct {
	room int
	sets []laid
}

func (m *cellModel) values() []int {
	l := make([]int, m.room)
	for i := range l {
		l[i] = -1
	}
	for _, s := range m.sets {
		l[s.cell] = s.value
	}
	return l
}

// cellPair is cells and their model; what is done to the one is done to the other.
type cellPair struct {
	t    *testing.T
	c    *pile.Cells
	want cellModel
}

// madeCells is so many cells, with some Sets done.
func madeCells(t *testing.T, n int, sets ...laid) *cellPair {
	t.Helper()
	c, e := pile.NewCells(n)
	if c == nil || e != api.OK {
		t.Fatalf("NewCells(%d): %v, %v", n, c, e)
	}
	p := &cellPair{t, c, cellModel{room: n}}
	for _, s := range sets {
		p.set(s.cell, s.value)
	}
	return p
}

func (p *cellPair) set(i, v int) {
	p.t.Helper()
	want := api.ErrArg
	if i >= 0 && i < p.want.room {
		want = api.OK
		p.want.sets = append(p.want.sets, laid{i, v})
	}
	if e := p.c.Set(i, v); e != want {
		p.t.Errorf("Set(%d, %d) of %d cells: %v, not %v", i, v, p.want.room, e, want)
	}
	p.holds()
}

func (p *cellPair) back(mark int) {
	p.t.Helper()
	want := api.ErrArg
	if mark >= 0 && mark <= len(p.want.sets) {
		want = api.OK
		p.want.sets = p.want.sets[:mark]
	}
	if e := p.c.Back(mark); e != want {
		p.t.Errorf("Back(%d): %v, not %v", mark, e, want)
	}
	p.holds()
}

// holds asks by every call that only asks.
func (p *cellPair) holds() {
	p.t.Helper()
	if p.c.Mark() != len(p.want.sets) {
		p.t.Errorf("Mark: %d, not %d", p.c.Mark(), len(p.want.sets))
	}
	values := p.want.values()
	if got := p.c.Values(); !slices.Equal(got, values) {
		p.t.Errorf("Values: %v, not %v; the Sets are %v", got, values, p.want.sets)
	}
	for i := -2; i <= p.want.room+2; i++ {
		value, there := 0, i >= 0 && i < p.want.room
		if there {
			value = values[i]
		}
		if got, ok := p.c.Get(i); got != value || ok != there {
			p.t.Errorf("Get(%d): %d, %v; the cells have %v", i, got, ok, values)
		}
	}
}

// TestNewCells: P4.3.
func TestNewCells(t *testing.T) {
	for _, n := range []int{0, 1, 2, 63, 64, 65} {
		madeCells(t, n).holds()
	}
	for _, n := range []int{-1, -2, math.MinInt, api.MaxRoom + 1, math.MaxInt32, math.MaxInt} {
		if c, e := pile.NewCells(n); c != nil || e != api.ErrArg {
			t.Errorf("NewCells(%d): %v, %v", n, c, e)
		}
	}
}

// TestMostCells: P4.3 and P4.4 at MaxRoom, each cell set once and taken back.
func TestMostCells(t *testing.T) {
	c, e := pile.NewCells(api.MaxRoom)
	if c == nil || e != api.OK {
		t.Fatal("NewCells(MaxRoom):", e)
	}
	whole := func(done string, want func(i int) int) {
		t.Helper()
		values := c.Values()
		if len(values) != api.MaxRoom {
			t.Fatalf("%s: %d Values", done, len(values))
		}
		for i, v := range values {
			if got, ok := c.Get(i); v != want(i) || got != v || !ok {
				t.Fatalf("%s: the cell %d has %d; Get: %d, %v", done, i, v, got, ok)
			}
		}
	}
	whole("new", func(int) int { return -1 })
	for i := range api.MaxRoom {
		if c.Set(i, i+1) != api.OK || c.Mark() != i+1 {
			t.Fatalf("Set(%d, %d): Mark %d", i, i+1, c.Mark())
		}
	}
	whole("set", func(i int) int { return i + 1 })
	if e := c.Set(api.MaxRoom, 1); e != api.ErrArg || c.Mark() != api.MaxRoom {
		t.Error("Set(MaxRoom, 1):", e, c.Mark())
	}
	if c.Back(1) != api.OK || c.Mark() != 1 {
		t.Error("Back(1): Mark", c.Mark())
	}
	whole("taken back", func(i int) int {
		if i == 0 {
			return 1
		}
		return -1
	})
}

// TestWrongCells: P4.3, cells that are not there: nothing is done, and no Set is counted.
func TestWrongCells(t *testing.T) {
	for _, p := range []*cellPair{madeCells(t, 0), madeCells(t, 1, laid{0, 4}), madeCells(t, 3, laid{2, 4}, laid{0, 5})} {
		for _, i := range append(farNumbers(), p.want.room, p.want.room+1, api.MaxRoom) {
			p.set(i, 7)
			if v, ok := p.c.Get(i); v != 0 || ok {
				t.Errorf("Get(%d) of %d cells: %d, %v", i, p.want.room, v, ok)
			}
		}
	}
}

// TestAnyNumbers: P4.3 and P4.4, a cell has any int, -1 and 0 as well.
func TestAnyNumbers(t *testing.T) {
	p := madeCells(t, 2)
	numbers := []int{0, -1, 1, -2, math.MinInt, math.MaxInt, math.MinInt32, math.MaxInt32, 0}
	for _, v := range numbers {
		p.set(1, v)
	}
	for mark := len(numbers) - 1; mark >= 0; mark-- {
		p.back(mark)
	}
}

// TestSetOfTheSame: P4.3, a Set counts also where the cell had that number already; in a new cell that is -1.
func TestSetOfTheSame(t *testing.T) {
	p := madeCells(t, 2)
	p.set(0, -1)
	p.set(0, 5)
	p.set(0, 5)
	p.set(0, 5)
	if p.c.Mark() != 4 {
		t.Error("Mark:", p.c.Mark())
	}
	for mark := 4; mark >= 0; mark-- {
		p.back(mark)
	}
}

// TestValuesAreNew: P4.3, the list that Values gives, written over, in its spare room too.
func TestValuesAreNew(t *testing.T) {
	p := madeCells(t, 3, laid{0, 4}, laid{2, 6})
	first, second := p.c.Values(), p.c.Values()
	for i := range first[:cap(first)] {
		first[:cap(first)][i] = 9
	}
	if !slices.Equal(second, []int{4, -1, 6}) {
		t.Error("the other list:", second)
	}
	p.holds()
	p.set(1, 8)
	p.back(0)
	if !slices.Equal(second, []int{4, -1, 6}) {
		t.Error("a list given ahead of Set and Back:", second)
	}
}

// TestBackToEach: P4.4, from each height to each mark below it; then other Sets, and back again.
func TestBackToEach(t *testing.T) {
	row := []laid{{0, 5}, {1, 6}, {0, 7}, {0, 7}, {2, -1}, {1, 0}, {0, 5}}
	for high := range len(row) + 1 {
		for mark := range high + 1 {
			p := madeCells(t, 3, row[:high]...)
			p.back(mark)
			p.set(2, 9)
			p.set(0, 8)
			p.back(mark)
			p.back(mark)
			p.back(0)
		}
	}
}

// TestBackRefused: P4.4, a mark below 0 or above Mark: nothing is done. What was taken back can't be brought forth again.
func TestBackRefused(t *testing.T) {
	for _, p := range []*cellPair{madeCells(t, 0), madeCells(t, 2), madeCells(t, 2, laid{0, 4}, laid{1, 5}, laid{0, 6})} {
		for _, mark := range append(farNumbers(), len(p.want.sets)+1, len(p.want.sets)+2) {
			p.back(mark)
		}
	}
	p := madeCells(t, 2, laid{0, 4}, laid{1, 5}, laid{0, 6})
	p.back(1)
	p.back(3)
	p.back(2)
	p.back(1)
}

// TestBackHangsOnTheFirst: P4.5, two rows of Sets that are the same up to a mark leave the same behind Back to it.
func TestBackHangsOnTheFirst(t *testing.T) {
	first := []laid{{0, 3}, {1, 4}, {0, 2}}
	a, b := madeCells(t, 3, first...), madeCells(t, 3, first...)
	for n := range 50 {
		a.set(n%3, n)
		b.set(2-n%3, -n)
		b.set(1, n*n)
	}
	for mark := 3; mark >= 0; mark-- {
		a.back(mark)
		b.back(mark)
		if !slices.Equal(a.c.Values(), b.c.Values()) || a.c.Mark() != b.c.Mark() {
			t.Errorf("Back(%d): %v, %v", mark, a.c.Values(), b.c.Values())
		}
	}
	if !slices.Equal(a.c.Values(), []int{-1, -1, -1}) {
		t.Error("Back(0):", a.c.Values())
	}
}

// TestCellsApart: P4.3 and P4.4, what is done to some cells does not show in others.
func TestCellsApart(t *testing.T) {
	a, b := madeCells(t, 2, laid{0, 1}), madeCells(t, 2, laid{0, 2}, laid{1, 3})
	a.set(1, 9)
	b.back(1)
	a.holds()
	b.holds()
}

// TestManySets: P4.3 to P4.5, long rows of calls of all kinds.
func TestManySets(t *testing.T) {
	next := chance()
	for _, n := range []int{0, 1, 2, 7} {
		p := madeCells(t, n)
		for range 600 {
			if next(6) == 0 {
				p.back(next(p.c.Mark()+5) - 2)
			} else {
				p.set(next(n+4)-2, next(5)-2)
			}
		}
		p.back(0)
		if slices.ContainsFunc(p.c.Values(), func(v int) bool { return v != -1 }) {
			t.Error("Back(0):", p.c.Values())
		}
	}
}
