package compare_test

import (
	"dredge/api"
	"dredge/tree"
)

// pool is the classes of made trees, each by its bounds.
func pool(mode api.Mode) [][]int {
	l := [][]int{{'a', 'a'}, {'b', 'b'}, {'a', 'b'}, {0xc3, 0xc3}, {0xe9, 0xe9}, {'b', 'b', 0xe9, 0xe9}, {}}
	if mode.Fold {
		l = [][]int{{'A', 'A', 'a', 'a'}, {'-', '-'}, {'A', 'B', 'a', 'b'}, {0xe9, 0xe9}, {'-', '-', 'A', 'A', 'a', 'a'}, {}}
	}
	if mode.Chars {
		l = append(l, []int{0x80, 0xd7ff}, []int{0xe9, 0xe9, 0x20ac, 0x20ac}, []int{0, 64, 0xea, 0xd7ff, 0xe000, api.MaxRune}, []int{0, 0xd7ff, 0xe000, api.MaxRune})
	} else {
		l = append(l, []int{0, 255})
	}
	return l
}

// maker makes trees that are right, without backreferences.
type maker struct {
	next    func(int) int
	classes [][]int
	groups  int
}

// made is some trees of some classes.
func made(seed uint32, classes [][]int, count int) []api.Node {
	next := numbers(seed)
	var l []api.Node
	for range count {
		m := maker{next: next, classes: classes}
		l = append(l, m.pattern(0))
	}
	return l
}

func (m *maker) pattern(deep int) api.Node {
	if m.next(2) == 0 {
		return m.branch(deep)
	}
	n := alt()
	for range 2 + m.next(2) {
		n.Kids = append(n.Kids, m.branch(deep+1))
	}
	return n
}

func (m *maker) branch(deep int) api.Node {
	switch m.next(14) {
	case 0:
		return empty()
	case 1:
		return begin()
	case 2:
		return end()
	case 3, 4, 5:
		return m.thing(deep)
	}
	n := cat()
	if m.next(8) == 0 {
		n.Kids = append(n.Kids, begin())
	}
	for range 2 + m.next(2) {
		n.Kids = append(n.Kids, m.thing(deep+1))
	}
	if m.next(8) == 0 {
		n.Kids = append(n.Kids, end())
	}
	return n
}

func (m *maker) thing(deep int) api.Node {
	kind := m.next(12)
	switch {
	case kind < 4 && deep < 6 && m.groups < 5:
		m.groups++
		number := m.groups
		return group(number, m.pattern(deep+1))
	case kind < 7 && deep < 7:
		bounds := [][2]int{{0, api.Infinite}, {0, api.Infinite}, {1, 1}, {0, 0}, {0, 1}, {1, api.Infinite}, {2, 2}, {2, 3}, {0, 2}, {2, api.Infinite}}
		b := bounds[m.next(len(bounds))]
		return rep(m.thing(deep+1), b[0], b[1])
	}
	return m.set()
}

func (m *maker) set() api.Node {
	at := m.next(2 * len(m.classes))
	if at >= len(m.classes) {
		at = m.next(min(2, len(m.classes)))
	}
	return set(m.classes[at]...)
}

// treesOf is all right trees of at most so many nodes, mode neither, without backreferences, of a few leaves and bounds.
func treesOf(most int) []api.Node {
	made := [][]api.Node{nil, {char('a'), char('b'), empty(), begin(), end()}}
	for nodes := 2; nodes <= most; nodes++ {
		var l []api.Node
		for _, kid := range made[nodes-1] {
			l = append(l, group(1, kid), star(kid), rep(kid, 2, 2), rep(kid, 1, 2))
		}
		for _, row := range rowsOf(made, nodes-1) {
			if len(row) >= 2 {
				l = append(l, cat(row...), alt(row...))
			}
		}
		made = append(made, l)
	}
	var right []api.Node
	for _, l := range made {
		for _, n := range l {
			n = renumbered(n)
			if tree.Right(n, neither) == api.OK {
				right = append(right, n)
			}
		}
	}
	return right
}

// rowsOf is all rows of trees that have so many nodes together.
func rowsOf(made [][]api.Node, nodes int) [][]api.Node {
	if nodes == 0 {
		return [][]api.Node{nil}
	}
	var l [][]api.Node
	for first := 1; first <= nodes && first < len(made); first++ {
		for _, rest := range rowsOf(made, nodes-first) {
			for _, n := range made[first] {
				l = append(l, append([]api.Node{n}, rest...))
			}
		}
	}
	return l
}

// renumbered is a copy of a tree whose groups have their numbers.
func renumbered(n api.Node) api.Node {
	n = copied(n)
	groups := 0
	for _, s := range spots(&n) {
		if s.Kind == api.NGroup {
			groups++
			s.N = groups
		}
	}
	return n
}
