package marks_test

import (
	"iter"
	"math"
	"slices"
	"testing"

	"dredge/api"
	"dredge/marks"
)

// model is a set written out as its room and its order, so that the calls are held against something that has no second list.
type model struct {
	room  int
	order []int
}

func (m *model) put(n int) bool {
	if n < 0 || n >= m.room || slices.Contains(m.order, n) {
		return false
	}
	m.order = append(m.order, n)
	return true
}

func (m *model) rising() []int {
	var l []int
	for n := range m.room {
		if slices.Contains(m.order, n) {
			l = append(l, n)
		}
	}
	return l
}

// made is a set of a room with some numbers put in.
func made(t *testing.T, room int, numbers ...int) *marks.Marks {
	t.Helper()
	m, e := marks.New(room)
	if m == nil || e != api.OK {
		t.Fatalf("New(%d): %v, %v", room, m, e)
	}
	for _, n := range numbers {
		if !m.Put(n) {
			t.Fatalf("Put(%d) into room %d: false", n, room)
		}
	}
	return m
}

// holds asks a set by every call that only asks, and tells what is otherwise than in the model.
func holds(t *testing.T, m *marks.Marks, want *model) {
	t.Helper()
	if m.Room() != want.room || m.Len() != len(want.order) {
		t.Errorf("Room, Len: %d, %d, not %d, %d", m.Room(), m.Len(), want.room, len(want.order))
	}
	for n := -2; n <= want.room+2; n++ {
		if got := m.Has(n); got != slices.Contains(want.order, n) {
			t.Errorf("Has(%d): %v; the order is %v", n, got, want.order)
		}
	}
	for k := -2; k <= want.room+2; k++ {
		number, there := 0, k >= 0 && k < len(want.order)
		if there {
			number = want.order[k]
		}
		if got, ok := m.At(k); got != number || ok != there {
			t.Errorf("At(%d): %d, %v; the order is %v", k, got, ok, want.order)
		}
	}
	if got := slices.Collect(m.All()); !slices.Equal(got, want.order) {
		t.Errorf("All: %v, not %v", got, want.order)
	}
	if got := m.Rising(); !slices.Equal(got, want.rising()) {
		t.Errorf("Rising: %v, not %v", got, want.rising())
	}
}

// farNumbers is numbers that no room has.
func farNumbers() []int {
	return []int{-1, -2, math.MinInt, math.MinInt32, api.MaxRoom, api.MaxRoom + 1, math.MaxInt32, math.MaxInt}
}

// TestNew: P2.1.
func TestNew(t *testing.T) {
	for _, room := range []int{0, 1, 2, 4, 64, 65, api.MaxRoom - 1, api.MaxRoom} {
		m, e := marks.New(room)
		if m == nil || e != api.OK {
			t.Fatalf("New(%d): %v, %v", room, m, e)
		}
		if m.Room() != room || m.Len() != 0 {
			t.Errorf("New(%d): Room %d, Len %d", room, m.Room(), m.Len())
		}
		for n := range room {
			if m.Has(n) {
				t.Fatalf("New(%d) has %d", room, n)
			}
		}
		if l := slices.Collect(m.All()); len(l) != 0 || len(m.Rising()) != 0 {
			t.Errorf("New(%d): All %v, Rising %v", room, l, m.Rising())
		}
	}
	for _, room := range []int{-1, -2, math.MinInt, api.MaxRoom + 1, math.MaxInt32, math.MaxInt} {
		if m, e := marks.New(room); m != nil || e != api.ErrArg {
			t.Errorf("New(%d): %v, %v", room, m, e)
		}
	}
}

// TestRoomStays: P2.1, whatever is done.
func TestRoomStays(t *testing.T) {
	for _, room := range []int{0, 1, 7} {
		m := made(t, room)
		asked := func(done string) {
			if m.Room() != room {
				t.Errorf("Room behind %s: %d, not %d", done, m.Room(), room)
			}
		}
		for n := -1; n <= room; n++ {
			m.Put(n)
			asked("Put")
		}
		for range m.All() {
			asked("All")
		}
		m.Rising()
		m.Same(m)
		m.Copy().Clear()
		asked("Rising, Same, Copy")
		m.Clear()
		asked("Clear")
		m.Put(0)
		asked("Put behind Clear")
	}
}

// TestRoomsOfEdges: P2.2 at the rooms 0 and 1, where every number is an edge.
func TestRoomsOfEdges(t *testing.T) {
	none := made(t, 0)
	for n := -1; n <= 1; n++ {
		if none.Put(n) || none.Has(n) {
			t.Errorf("room 0: %d", n)
		}
	}
	none.Clear()
	holds(t, none, &model{})

	one := made(t, 1)
	if one.Put(-1) || one.Put(1) || !one.Put(0) || one.Put(0) {
		t.Error("room 1: Put")
	}
	holds(t, one, &model{1, []int{0}})
}

// TestGreatestRoom: P2.2 at MaxRoom, full, from the greatest number down.
func TestGreatestRoom(t *testing.T) {
	m := made(t, api.MaxRoom)
	for n := api.MaxRoom - 1; n >= 0; n-- {
		if !m.Put(n) {
			t.Fatalf("Put(%d): false", n)
		}
	}
	for _, n := range append(farNumbers(), 0, 1, api.MaxRoom-1) {
		if m.Put(n) {
			t.Errorf("Put(%d) into what is full: true", n)
		}
	}
	if m.Len() != api.MaxRoom {
		t.Fatalf("Len: %d", m.Len())
	}
	k := 0
	for n := range m.All() {
		if at, ok := m.At(k); n != api.MaxRoom-1-k || at != n || !ok || !m.Has(n) {
			t.Fatalf("the number at %d: %d; At: %d, %v", k, n, at, ok)
		}
		k++
	}
	for i, n := range m.Rising() {
		if i != n {
			t.Fatalf("Rising at %d: %d", i, n)
		}
	}
	if o := m.Copy(); k != api.MaxRoom || o.Len() != k || !o.Same(m) {
		t.Errorf("All goes over %d; Copy", k)
	}
}

// TestWrongNumbers: P2.2, numbers that no set has: nothing is done.
func TestWrongNumbers(t *testing.T) {
	m := made(t, 5, 3, 0, 4)
	for _, n := range append(farNumbers(), 5, 6) {
		if m.Put(n) || m.Has(n) {
			t.Errorf("Put or Has of %d", n)
		}
	}
	for _, k := range append(farNumbers(), 3, 4, 5) {
		if n, ok := m.At(k); n != 0 || ok {
			t.Errorf("At(%d): %d, %v", k, n, ok)
		}
	}
	holds(t, m, &model{5, []int{3, 0, 4}})
}

// TestPutTwice: P2.2, a number that is there already keeps its place.
func TestPutTwice(t *testing.T) {
	m := made(t, 6, 5, 0, 3)
	for _, n := range []int{5, 3, 0, 5, 0} {
		if m.Put(n) {
			t.Errorf("Put(%d) again: true", n)
		}
		holds(t, m, &model{6, []int{5, 0, 3}})
	}
}

// TestClear: P2.2, and the order counts from Clear on. What stood there ahead of it is nowhere to be seen, though the numbers come again in other orders.
func TestClear(t *testing.T) {
	m := made(t, 5)
	for _, order := range [][]int{{4, 2, 0, 1, 3}, {2, 4}, {}, {3, 1, 0}, {0, 1, 2, 3, 4}, {4, 3, 2, 1, 0}, {1}} {
		want := &model{room: 5}
		holds(t, m, want)
		for _, n := range order {
			if !m.Put(n) || !want.put(n) {
				t.Errorf("Put(%d) of %v: false", n, order)
			}
			holds(t, m, want)
			if m.Put(n) {
				t.Errorf("Put(%d) of %v again: true", n, order)
			}
		}
		m.Clear()
		m.Clear()
	}
}

// TestNothingLaidDownAnew: P2.2, a set that is emptied takes its numbers up again in the lists that it has; so does a copy.
func TestNothingLaidDownAnew(t *testing.T) {
	for _, m := range []*marks.Marks{made(t, 100), made(t, 100, 7).Copy()} {
		laid := testing.AllocsPerRun(20, func() {
			m.Clear()
			for n := range 100 {
				m.Put(n)
			}
		})
		if laid != 0 {
			t.Errorf("%v lists are laid down anew", laid)
		}
	}
}

// TestMany: P2.2, P2.3 and P2.5, long rows of calls of all kinds, always the same ones.
func TestMany(t *testing.T) {
	seed := uint32(1)
	next := func(below int) int {
		seed = seed*1664525 + 1013904223
		return int(seed>>8) % below
	}
	for _, room := range []int{0, 1, 2, 3, 8, 33} {
		m, want := made(t, room), &model{room: room}
		grown := 0
		for range 400 {
			before := m.Len()
			if next(12) == 0 {
				m.Clear()
				want.order = nil
				before, grown = 0, 0
			}
			n := next(room+4) - 2
			got := m.Put(n)
			if got != want.put(n) {
				t.Fatalf("Put(%d) into room %d: %v", n, room, got)
			}
			if got {
				grown++
			}
			if (m.Len() == before+1) != got || m.Len() != grown {
				t.Fatalf("Put(%d): %v, but Len %d behind %d", n, got, m.Len(), before)
			}
			holds(t, m, want)
		}
	}
}

// TestAllLeftEarly: P2.3, left early, then gone over again by the same function.
func TestAllLeftEarly(t *testing.T) {
	m := made(t, 9, 8, 0, 5, 2)
	all := m.All()
	for most := range 5 {
		var l []int
		if most > 0 {
			for n := range all {
				l = append(l, n)
				if len(l) == most {
					break
				}
			}
		}
		if !slices.Equal(l, []int{8, 0, 5, 2}[:most]) {
			t.Errorf("the first %d: %v", most, l)
		}
	}
	if l := slices.Collect(all); !slices.Equal(l, []int{8, 0, 5, 2}) {
		t.Error("gone over again:", l)
	}
	holds(t, m, &model{9, []int{8, 0, 5, 2}})
}

// TestAllWithinItself: P2.3, and what is put in between the two beginnings is seen by the inner one alone.
func TestAllWithinItself(t *testing.T) {
	m := made(t, 9, 4, 1)
	all := m.All()
	var outer []int
	var inner [][]int
	for n := range all {
		outer = append(outer, n)
		m.Put(n + 2)
		inner = append(inner, slices.Collect(all))
	}
	if !slices.Equal(outer, []int{4, 1}) {
		t.Error("the outer:", outer)
	}
	if want := [][]int{{4, 1, 6}, {4, 1, 6, 3}}; !slices.EqualFunc(inner, want, slices.Equal) {
		t.Error("the inner:", inner)
	}
}

// TestAllWithChanges: P2.3, Put and Clear in its midst do not show in it, and have their effect.
func TestAllWithChanges(t *testing.T) {
	tests := []struct {
		name   string
		change func(m *marks.Marks, n int)
		want   []int
	}{
		{"Put", func(m *marks.Marks, n int) { m.Put(n + 1) }, []int{5, 3, 0, 6, 4, 1}},
		{"Clear", func(m *marks.Marks, n int) { m.Clear() }, nil},
		{"Clear and Put of another", func(m *marks.Marks, n int) { m.Clear(); m.Put(7) }, []int{7}},
		{"Clear and Put of the same", func(m *marks.Marks, n int) { m.Clear(); m.Put(0); m.Put(n) }, []int{0}},
		{"Clear and Put of many", func(m *marks.Marks, n int) {
			m.Clear()
			for i := range 9 {
				m.Put(8 - i)
			}
		}, []int{8, 7, 6, 5, 4, 3, 2, 1, 0}},
	}
	for _, test := range tests {
		m := made(t, 9, 5, 3, 0)
		var l []int
		for n := range m.All() {
			l = append(l, n)
			test.change(m, n)
		}
		if !slices.Equal(l, []int{5, 3, 0}) {
			t.Errorf("%s: All %v", test.name, l)
		}
		holds(t, m, &model{9, test.want})
	}
}

// TestAllPulled: P2.3, two that are gone over by turns, one of them begun ahead of a change.
func TestAllPulled(t *testing.T) {
	m := made(t, 9, 5, 3)
	all := m.All()
	next, stop := iter.Pull(all)
	defer stop()
	if n, ok := next(); n != 5 || !ok {
		t.Fatal("the first:", n, ok)
	}
	m.Clear()
	m.Put(1)
	m.Put(2)
	m.Put(3)
	if l := slices.Collect(all); !slices.Equal(l, []int{1, 2, 3}) {
		t.Error("begun behind the change:", l)
	}
	if n, ok := next(); n != 3 || !ok {
		t.Error("the second:", n, ok)
	}
	if n, ok := next(); ok {
		t.Error("a third:", n)
	}
}

// TestAllMadeLongAgo: P2.3, what counts is when the range begins, not when its function was made.
func TestAllMadeLongAgo(t *testing.T) {
	m := made(t, 9)
	all := m.All()
	for _, order := range [][]int{{}, {3}, {8, 0}, {1, 2, 3, 4, 5, 6, 7, 8, 0}, {4}} {
		m.Clear()
		for _, n := range order {
			m.Put(n)
		}
		if l := slices.Collect(all); !slices.Equal(l, order) {
			t.Errorf("All of %v: %v", order, l)
		}
	}
}

// TestRisingIsNew: P2.3, the list that Rising gives, written over, in its spare room too.
func TestRisingIsNew(t *testing.T) {
	m := made(t, 9, 8, 0, 5)
	first, second := m.Rising(), m.Rising()
	for _, l := range [][]int{first, first[:cap(first)]} {
		for i := range l {
			l[i] = 7
		}
	}
	if !slices.Equal(second, []int{0, 5, 8}) {
		t.Error("the other list:", second)
	}
	holds(t, m, &model{9, []int{8, 0, 5}})
	third := m.Rising()
	m.Clear()
	m.Put(1)
	if !slices.Equal(third, []int{0, 5, 8}) {
		t.Error("a list given ahead of Clear:", third)
	}
}

// TestSame: P2.4.
func TestSame(t *testing.T) {
	tests := []struct {
		a, b model
		want bool
	}{
		{model{4, []int{2, 0}}, model{9, []int{0, 2}}, true},
		{model{4, []int{2, 0}}, model{4, []int{2, 0}}, true},
		{model{4, []int{2, 0}}, model{4, []int{0, 2}}, true},
		{model{0, nil}, model{0, nil}, true},
		{model{0, nil}, model{9, nil}, true},
		{model{4, []int{2, 0}}, model{9, []int{2, 1}}, false},
		{model{4, []int{2, 0}}, model{9, []int{2}}, false},
		{model{4, []int{2}}, model{9, []int{2, 0}}, false},
		{model{4, []int{2}}, model{9, []int{8}}, false},
		{model{1, []int{0}}, model{9, []int{8}}, false},
		{model{4, nil}, model{4, []int{0}}, false},
		{model{0, nil}, model{1, []int{0}}, false},
		{model{9, []int{8, 1, 7}}, model{9, []int{1, 7, 6}}, false},
		{model{9, []int{8, 1, 7}}, model{100, []int{7, 8, 1}}, true},
	}
	for _, test := range tests {
		a, b := made(t, test.a.room, test.a.order...), made(t, test.b.room, test.b.order...)
		if a.Same(b) != test.want || b.Same(a) != test.want {
			t.Errorf("Same of %v and %v: %v, %v", test.a, test.b, a.Same(b), b.Same(a))
		}
		if !a.Same(a) || !b.Same(b) {
			t.Errorf("Same of %v or %v with itself: false", test.a, test.b)
		}
		holds(t, a, &test.a)
		holds(t, b, &test.b)
	}
}

// TestSameBehindClear: P2.4, numbers that were there once do not count.
func TestSameBehindClear(t *testing.T) {
	a, b := made(t, 9, 8, 0), made(t, 9, 8, 0)
	a.Clear()
	if a.Same(b) || b.Same(a) {
		t.Error("Same of an emptied set and a full one: true")
	}
	a.Put(1)
	a.Put(8)
	if a.Same(b) || b.Same(a) {
		t.Error("Same of {1, 8} and {8, 0}: true")
	}
	b.Clear()
	b.Put(8)
	b.Put(1)
	if !a.Same(b) || !b.Same(a) {
		t.Error("Same of {1, 8} and {8, 1}: false")
	}
}

// TestCopy: P2.4, the same room, numbers and order.
func TestCopy(t *testing.T) {
	for _, want := range []model{{0, nil}, {1, nil}, {1, []int{0}}, {9, []int{8, 0, 5}}, {4, []int{3, 2, 1, 0}}} {
		m := made(t, want.room, want.order...)
		c := m.Copy()
		if c == m || !c.Same(m) || !m.Same(c) {
			t.Errorf("Copy of %v is not another one with the same numbers", want)
		}
		holds(t, c, &want)
		holds(t, c.Copy(), &want)
		holds(t, m, &want)
	}
}

// TestCopyBehindClear: P2.4, of a set that had other numbers once.
func TestCopyBehindClear(t *testing.T) {
	m := made(t, 5, 4, 2, 0, 1, 3)
	m.Clear()
	m.Put(2)
	m.Put(4)
	c := m.Copy()
	holds(t, c, &model{5, []int{2, 4}})
	for _, n := range []int{0, 1, 3} {
		if !c.Put(n) {
			t.Errorf("Put(%d) into the copy: false", n)
		}
	}
	holds(t, c, &model{5, []int{2, 4, 0, 1, 3}})
	holds(t, m, &model{5, []int{2, 4}})
}

// TestCopyApart: P2.4, each changed behind Copy, first one and then the other.
func TestCopyApart(t *testing.T) {
	start := func() (*marks.Marks, *marks.Marks) {
		m := made(t, 6, 5, 0)
		return m, m.Copy()
	}
	for _, swapped := range []bool{false, true} {
		a, b := start()
		if swapped {
			a, b = b, a
		}
		a.Put(3)
		holds(t, b, &model{6, []int{5, 0}})
		b.Put(1)
		b.Put(2)
		holds(t, a, &model{6, []int{5, 0, 3}})
		holds(t, b, &model{6, []int{5, 0, 1, 2}})
		a.Clear()
		a.Put(0)
		a.Put(4)
		holds(t, b, &model{6, []int{5, 0, 1, 2}})
		b.Clear()
		holds(t, a, &model{6, []int{0, 4}})
		holds(t, b, &model{6, nil})
	}
}

// TestCopyWithinAll: P2.3 and P2.4, a copy made within a range, and a range over a copy while its set is changed.
func TestCopyWithinAll(t *testing.T) {
	m := made(t, 6, 5, 0)
	c := m.Copy()
	var l []int
	for n := range c.All() {
		l = append(l, n)
		m.Clear()
		m.Put(1)
		holds(t, m.Copy(), &model{6, []int{1}})
	}
	if !slices.Equal(l, []int{5, 0}) {
		t.Error("All of the copy:", l)
	}
	holds(t, c, &model{6, []int{5, 0}})
}

// TestExamples: the chapter's examples.
func TestExamples(t *testing.T) {
	m := made(t, 4)
	for i, want := range []bool{true, true, false, false, false} {
		if n := []int{2, 0, 2, 4, -1}[i]; m.Put(n) != want {
			t.Errorf("Put(%d): not %v", n, want)
		}
	}
	holds(t, m, &model{4, []int{2, 0}})
	if l := m.Rising(); !slices.Equal(l, []int{0, 2}) {
		t.Error("Rising:", l)
	}
	if !m.Same(made(t, 9, 0, 2)) {
		t.Error("Same of {2, 0} of room 4 and {0, 2} of room 9: false")
	}
	m.Clear()
	if m.Has(2) || !m.Put(2) {
		t.Error("behind Clear: Has(2), Put(2)")
	}
	holds(t, m, &model{4, []int{2}})
	none := made(t, 0)
	if none.Put(0) || len(none.Rising()) != 0 {
		t.Error("New(0): Put(0), Rising")
	}
	for _, room := range []int{-1, 100001} {
		if m, e := marks.New(room); m != nil || e != api.ErrArg {
			t.Errorf("New(%d): %v, %v", room, m, e)
		}
	}
}
