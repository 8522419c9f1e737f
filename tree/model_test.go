package tree_test

import (
	"slices"
	"testing"

	"dredge/api"
	"dredge/tree"
)

// The model: a tree is written out as the list of its nodes, each with where it stands; the chapter's words are asked of each.

// stand is a node of a tree: the nodes around it, the tree's own first, and which Kid of the last of these it is.
type stand struct {
	node   api.Node
	around []*stand
	kid    int
}

// stands is the first 2001 nodes of a tree at most, in its order.
func stands(n api.Node) []*stand {
	var l []*stand
	left := []*stand{{node: n}}
	for len(left) > 0 && len(l) <= 2000 {
		s := left[len(left)-1]
		left = left[:len(left)-1]
		l = append(l, s)
		around := append(slices.Clone(s.around), s)
		for i := len(s.node.Kids) - 1; i >= 0; i-- {
			left = append(left, &stand{s.node.Kids[i], around, i})
		}
	}
	return l
}

// line is a line of the chapter's table: which fields a kind has, how many Kids (most -1: any number), and of which kinds.
type line struct {
	fields      string
	least, most int
	kids        []int
}

var lines = table()

func table() map[int]line {
	all := []int{api.NEmpty, api.NSet, api.NBegin, api.NEnd, api.NCat, api.NGroup, api.NBack, api.NRep}
	return map[int]line{
		api.NEmpty: {},
		api.NBegin: {},
		api.NEnd:   {},
		api.NSet:   {fields: "r"},
		api.NCat:   {"", 2, -1, []int{api.NSet, api.NBegin, api.NEnd, api.NGroup, api.NBack, api.NRep}},
		api.NAlt:   {"", 2, -1, all},
		api.NGroup: {"n", 1, 1, append(slices.Clone(all), api.NAlt)},
		api.NBack:  {fields: "n"},
		api.NRep:   {"m", 1, 1, []int{api.NSet, api.NGroup, api.NBack, api.NRep}},
	}
}

func (s *stand) parent() *stand {
	if len(s.around) == 0 {
		return nil
	}
	return s.around[len(s.around)-1]
}

func (s *stand) isBranch() bool {
	p := s.parent()
	return s.node.Kind != api.NAlt && (p == nil || p.node.Kind == api.NGroup || p.node.Kind == api.NAlt)
}

// inBranch: it is a Kid of an NCat that is a branch, with so many Kids on one side of it.
func (s *stand) inBranch(others int) bool {
	p := s.parent()
	return p != nil && p.node.Kind == api.NCat && p.isBranch() && others == 0
}

// standsRight: its kind is one, and may stand there.
func (s *stand) standsRight() bool {
	if _, ok := lines[s.node.Kind]; !ok {
		return false
	}
	p := s.parent()
	if p != nil && !slices.Contains(lines[p.node.Kind].kids, s.node.Kind) {
		return false
	}
	switch s.node.Kind {
	case api.NAlt:
		return p == nil || p.node.Kind == api.NGroup
	case api.NBegin:
		return s.isBranch() || s.inBranch(s.kid)
	case api.NEnd:
		return s.isBranch() || s.inBranch(len(p.node.Kids)-1-s.kid)
	}
	return true
}

// isClass: number by number where something may change.
func isClass(l []api.Range, mode api.Mode) bool {
	has := func(c int) bool {
		return slices.ContainsFunc(l, func(r api.Range) bool { return r.Lo <= c && c <= r.Hi })
	}
	for i, r := range l {
		if r.Lo > r.Hi || i > 0 && l[i-1].Hi >= r.Lo-1 || r.Lo < 0 {
			return false
		}
		if mode.Chars && (r.Hi > 1114111 || r.Lo <= 57343 && r.Hi >= 55296) || !mode.Chars && r.Hi > 255 {
			return false
		}
	}
	for c := 'a'; mode.Fold && c <= 'z'; c++ {
		if has(int(c)) != has(int(c)-32) {
			return false
		}
	}
	return true
}

// groupsAhead is the NGroups among the nodes ahead of the i-th.
func groupsAhead(l []*stand, i int) []*stand {
	var groups []*stand
	for _, s := range l[:i] {
		if s.node.Kind == api.NGroup {
			groups = append(groups, s)
		}
	}
	return groups
}

// fieldsRight: fields that the table does not name are 0 and empty, the others as it says.
func fieldsRight(l []*stand, i int, mode api.Mode) bool {
	n := l[i].node
	row := lines[n.Kind]
	if row.fields != "n" && n.N != 0 || row.fields != "m" && (n.Min != 0 || n.Max != 0) || row.fields != "r" && len(n.Ranges) != 0 {
		return false
	}
	switch n.Kind {
	case api.NSet:
		return isClass(n.Ranges, mode)
	case api.NGroup:
		return n.N == len(groupsAhead(l, i))+1
	case api.NBack:
		return slices.Contains([]int{1, 2, 3, 4, 5, 6, 7, 8, 9}, n.N)
	case api.NRep:
		return boundsMayBe(n.Min, n.Max)
	}
	return true
}

// wrong is the first of the chapter's five that is so of the i-th node.
func wrong(l []*stand, i int, mode api.Mode) api.Errno {
	s := l[i]
	row := lines[s.node.Kind]
	kids := len(s.node.Kids)
	if i >= 2000 {
		return api.ErrMany
	}
	if len(s.around)+1 > 40 {
		return api.ErrDeep
	}
	if !s.standsRight() || !fieldsRight(l, i, mode) || kids < row.least || row.most >= 0 && kids > row.most {
		return api.ErrTree
	}
	if s.node.Kind == api.NGroup && len(groupsAhead(l, i)) >= 30 {
		return api.ErrMany
	}
	ended := func(g *stand) bool { return g.node.N == s.node.N && !slices.Contains(s.around, g) }
	if s.node.Kind == api.NBack && !slices.ContainsFunc(groupsAhead(l, i), ended) {
		return api.ErrBack
	}
	return api.OK
}

func modelRight(n api.Node, mode api.Mode) api.Errno {
	l := stands(n)
	for i := range l {
		if e := wrong(l, i, mode); e != api.OK {
			return e
		}
	}
	return api.OK
}

// numbers gives numbers below a bound, always the same ones.
func numbers(seed uint32) func(int) int {
	return func(below int) int {
		seed = seed*1664525 + 1013904223
		return int(seed>>8) % below
	}
}

// shapes is all rows of trees that have so many nodes in all, each node without a kind.
func shapes(nodes int) [][]api.Node {
	if nodes == 0 {
		return [][]api.Node{nil}
	}
	var l [][]api.Node
	for first := 1; first <= nodes; first++ {
		for _, kids := range shapes(first - 1) {
			for _, rest := range shapes(nodes - first) {
				l = append(l, append([]api.Node{{Kids: kids}}, rest...))
			}
		}
	}
	return l
}

// labelled goes over all trees of a shape, each node one of the labels.
func labelled(shape api.Node, nodes int, labels []api.Node, look func(api.Node)) {
	choice := make([]int, nodes)
	for {
		at := 0
		look(laid(shape, labels, choice, &at))
		i := 0
		for i < nodes && choice[i] == len(labels)-1 {
			choice[i] = 0
			i++
		}
		if i == nodes {
			return
		}
		choice[i]++
	}
}

// laid is a shape with the labels that were chosen, in the tree's order.
func laid(shape api.Node, labels []api.Node, choice []int, at *int) api.Node {
	n := labels[choice[*at]]
	*at++
	for _, k := range shape.Kids {
		n.Kids = append(n.Kids, laid(k, labels, choice, at))
	}
	return n
}

// TestAllSmallTrees: P8.1, all trees of few nodes.
func TestAllSmallTrees(t *testing.T) {
	few := []api.Node{char('.'), begin(), cat(), alt(), {Kind: api.NGroup, N: 1}, {Kind: api.NGroup, N: 2}, back(1), {Kind: api.NRep, Max: 1}}
	more := append(slices.Clone(few), end(), api.Node{}, empty(), char('a'), back(2), back(10), api.Node{Kind: api.NRep, Min: 2, Max: 1}, api.Node{Kind: api.NBegin, N: 1}, api.Node{Kind: 10})
	seen := map[api.Errno]int{}
	for nodes := 1; nodes <= 5; nodes++ {
		labels := more
		if nodes == 5 {
			labels = few
		}
		for _, shape := range shapes(nodes) {
			if len(shape) > 1 {
				continue
			}
			labelled(shape[0], nodes, labels, func(n api.Node) {
				e := modelRight(n, neither)
				seen[e]++
				if got := tree.Right(n, neither); got != e {
					t.Errorf("Right(%v): %v, not %v", n, got, e)
				}
			})
		}
	}
	for _, e := range []api.Errno{api.OK, api.ErrTree, api.ErrBack} {
		if seen[e] < 100 {
			t.Errorf("only %d trees are %v", seen[e], e)
		}
	}
}

// maker makes trees that are right.
type maker struct {
	next  func(int) int
	mode  api.Mode
	begun int   // groups
	ended []int // those that ended
}

func (m *maker) pattern(deep int) api.Node {
	if m.next(3) > 0 {
		return m.branch(deep)
	}
	n := alt()
	for range 2 + m.next(2) {
		n.Kids = append(n.Kids, m.branch(deep+1))
	}
	return n
}

func (m *maker) branch(deep int) api.Node {
	switch m.next(8) {
	case 0:
		return empty()
	case 1:
		return begin()
	case 2:
		return end()
	case 3, 4:
		return m.thing(deep)
	}
	n := cat()
	if m.next(3) == 0 {
		n.Kids = append(n.Kids, begin())
	}
	for range 2 + m.next(3) {
		n.Kids = append(n.Kids, m.thing(deep+1))
	}
	if m.next(3) == 0 {
		n.Kids = append(n.Kids, end())
	}
	return n
}

func (m *maker) thing(deep int) api.Node {
	kind := m.next(8)
	switch {
	case kind < 2 && deep < 8 && m.begun < 30:
		m.begun++
		number := m.begun
		n := group(number, m.pattern(deep+1))
		m.ended = append(m.ended, number)
		return n
	case kind < 4 && deep < 38:
		least := m.next(256)
		most := api.Infinite
		if m.next(2) == 0 {
			most = least + m.next(256-least)
		}
		return rep(m.thing(deep+1), least, most)
	case kind == 4 && len(m.ended) > 0:
		if number := m.ended[m.next(len(m.ended))]; number <= 9 {
			return back(number)
		}
	}
	return m.set()
}

func (m *maker) set() api.Node {
	top := 255
	if m.mode.Chars {
		top = 1114111
	}
	sets := []api.Node{set(), set('0', '9'), set(0, 64, 91, 96, 123, 255), set('A', 'F', 'a', 'f'), set(top, top), set(128, 255)}
	return sets[m.next(len(sets))]
}

// spots is all nodes of a tree, to be written into.
func spots(n *api.Node) []*api.Node {
	l := []*api.Node{n}
	for i := range n.Kids {
		l = append(l, spots(&n.Kids[i])...)
	}
	return l
}

// spoil changes something about one node.
func spoil(n *api.Node, next func(int) int) {
	l := spots(n)
	at := l[next(len(l))]
	other := written(*l[next(len(l))])
	switch next(11) {
	case 0:
		at.Kind = next(12) - 1
	case 1:
		at.N += next(4) - 2
	case 2:
		at.Min += next(512) - 256
	case 3:
		at.Max += next(512) - 256
	case 4:
		at.Ranges = append(at.Ranges, api.Range{Lo: next(300), Hi: next(300)})
	case 5:
		at.Kids = append(at.Kids, other)
	case 6:
		at.Kids = at.Kids[:next(len(at.Kids)+1)]
	case 7:
		*at = other
	case 8:
		slices.Reverse(at.Kids)
	case 9:
		*at = rep(*at, 0, 1)
	case 10:
		*at = []api.Node{empty(), begin(), end(), back(next(11)), char('x'), cat(char('-'), char('-'))}[next(6)]
	}
}

// TestManyTrees: P8.1, P8.2, P8.3 and P8.5, trees that are made right, and spoilt once and more.
func TestManyTrees(t *testing.T) {
	next := numbers(11)
	seen := map[api.Errno]int{}
	for range 6000 {
		m := &maker{next: next, mode: modes()[next(4)]}
		n := m.pattern(1)
		if e := modelRight(n, m.mode); e != api.OK {
			t.Fatalf("the maker's tree %v: %v", n, e)
		}
		for times := range 4 {
			follows(t, n)
			for _, mode := range modes() {
				e := modelRight(n, mode)
				seen[e]++
				if got := tree.Right(n, mode); got != e {
					t.Errorf("Right(%v, %v): %v, not %v (spoilt %d times)", n, mode, got, e, times)
				}
				if e == api.OK {
					followsFromRight(t, n)
				}
			}
			n = written(n)
			spoil(&n, next)
		}
	}
	for _, e := range []api.Errno{api.OK, api.ErrTree, api.ErrBack} {
		if seen[e] < 500 {
			t.Errorf("only %d trees are %v", seen[e], e)
		}
	}
}

// follows: P8.2, P8.3 and P8.5, of any tree of at most 2000 nodes: Count, Depth and Groups against All, and against the tree written out.
func follows(t *testing.T, n api.Node) {
	t.Helper()
	l := stands(n)
	if len(l) > 2000 {
		t.Fatal("the test's tree is too great")
	}
	count, depth := 0, 0
	for deep, node := range tree.All(n) {
		want := l[count].node
		want.Kids = nil
		if deep != len(l[count].around)+1 || !equal(node, want) {
			t.Errorf("All of %v at %d: %d, %v", n, count, deep, node)
		}
		depth = max(depth, deep)
		count++
	}
	if count != len(l) || tree.Count(n) != count || tree.Depth(n) != depth || tree.Groups(n) != len(groupsAhead(l, len(l))) {
		t.Errorf("of %v: Count %d, Depth %d, Groups %d; All tells %d", n, tree.Count(n), tree.Depth(n), tree.Groups(n), count)
	}
	if !tree.Same(n, written(n)) {
		t.Errorf("%v is not the same as itself", n)
	}
}

// followsFromRight: P8.5, the groups of a right tree are 1, 2, .. up to Groups; it has at most 2000 nodes, 40 deep.
func followsFromRight(t *testing.T, n api.Node) {
	t.Helper()
	number := 0
	for _, node := range tree.All(n) {
		if node.Kind == api.NGroup {
			number++
			if node.N != number {
				t.Errorf("the group %d of %v is the number %d", node.N, n, number)
			}
		}
	}
	if tree.Groups(n) != number || number > 30 || tree.Count(n) > 2000 || tree.Depth(n) > 40 {
		t.Errorf("of the right tree %v: Groups %d, Count %d, Depth %d", n, tree.Groups(n), tree.Count(n), tree.Depth(n))
	}
}
