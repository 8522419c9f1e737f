package measure_test

import (
	"fmt"
	"slices"
	"testing"

	"dredge/api"
	"dredge/classes"
	"dredge/measure"
	"dredge/parse"
	"dredge/tree"
)

var (
	neither = api.Mode{}
	chars   = api.Mode{Chars: true}
	fold    = api.Mode{Fold: true}
	both    = api.Mode{Chars: true, Fold: true}
)

func modes() []api.Mode {
	return []api.Mode{neither, chars, fold, both}
}

func empty() api.Node { return api.Node{Kind: api.NEmpty} }
func begin() api.Node { return api.Node{Kind: api.NBegin} }
func end() api.Node   { return api.Node{Kind: api.NEnd} }

// set is the node of ranges, each by its two bounds.
func set(bounds ...int) api.Node {
	n := api.Node{Kind: api.NSet}
	for i := 0; i < len(bounds); i += 2 {
		n.Ranges = append(n.Ranges, api.Range{Lo: bounds[i], Hi: bounds[i+1]})
	}
	return n
}

func char(c int) api.Node { return set(c, c) }

func cat(kids ...api.Node) api.Node { return api.Node{Kind: api.NCat, Kids: kids} }
func alt(kids ...api.Node) api.Node { return api.Node{Kind: api.NAlt, Kids: kids} }

func group(number int, kid api.Node) api.Node {
	return api.Node{Kind: api.NGroup, N: number, Kids: []api.Node{kid}}
}

func back(number int) api.Node { return api.Node{Kind: api.NBack, N: number} }

func rep(kid api.Node, least, most int) api.Node {
	return api.Node{Kind: api.NRep, Min: least, Max: most, Kids: []api.Node{kid}}
}

func star(kid api.Node) api.Node { return rep(kid, 0, api.Infinite) }

// many is a thing so many times, as Kids.
func many(n api.Node, times int) []api.Node {
	return slices.Repeat([]api.Node{n}, times)
}

// of is a pattern's tree.
func of(t *testing.T, pattern string, mode api.Mode) api.Node {
	t.Helper()
	n, err := parse.Parse(pattern, mode)
	if err != nil {
		t.Fatalf("Parse(%q, %v): %v", pattern, mode, err)
	}
	return n
}

// short is the beginning of what a tree looks like: some of them are too great to be read.
func short(n api.Node) string {
	s := fmt.Sprint(n)
	if len(s) > 300 {
		return s[:300] + ".."
	}
	return s
}

// copied is a tree in memory of its own.
func copied(n api.Node) api.Node {
	n.Ranges, n.Kids = slices.Clone(n.Ranges), slices.Clone(n.Kids)
	for i := range n.Kids {
		n.Kids[i] = copied(n.Kids[i])
	}
	return n
}

// answers is what all calls tell of a tree.
type answers struct {
	free         bool
	used         []int
	size         int
	least, most  int
	begins, ends bool
	first        api.Set
	none         bool
	literal      string
	isLiteral    bool
	prefix       string
}

func measured(n api.Node, mode api.Mode) answers {
	var a answers
	a.free = measure.Free(n, mode)
	a.used = measure.Used(n, mode)
	a.size = measure.Size(n, mode)
	a.least, a.most = measure.Widths(n, mode)
	a.begins, a.ends = measure.Anchored(n, mode)
	a.first, a.none = measure.First(n, mode)
	a.literal, a.isLiteral = measure.Literal(n, mode)
	a.prefix = measure.Prefix(n, mode)
	return a
}

func (a answers) equal(b answers) bool {
	return a.free == b.free && slices.Equal(a.used, b.used) && a.size == b.size && a.least == b.least && a.most == b.most &&
		a.begins == b.begins && a.ends == b.ends && a.first == b.first && a.none == b.none &&
		a.literal == b.literal && a.isLiteral == b.isLiteral && a.prefix == b.prefix
}

// isNothing: of a tree that is not right all calls answer zero values.
func isNothing(t *testing.T, n api.Node, mode api.Mode) {
	t.Helper()
	if tree.Right(n, mode) == api.OK {
		t.Errorf("%s, %v is right", short(n), mode)
	}
	if a := measured(n, mode); !a.equal(answers{}) {
		t.Errorf("of %s, %v, which is not right: %+v", short(n), mode, a)
	}
}

// numbers gives numbers below a bound, always the same ones.
func numbers(seed uint32) func(int) int {
	return func(below int) int {
		seed = seed*1664525 + 1013904223
		return int(seed>>8) % below
	}
}

// someClass is a class of a mode: one character, few ranges near the numbers at which something changes, or all but these.
func someClass(next func(int) int, mode api.Mode) []api.Range {
	special := []int{0, 'A', 'Z', 'a', 'z', 127, 128, 191, 192, 194, 223, 224, 255, 256, 2047, 2048, 4095, 4096, 55295, 57344, 65535, 65536, 262143, 262144, 1114111}
	var l []api.Range
	for range 1 + next(4)*next(2) {
		lo := special[next(len(special))] + next(3) - 1
		l = append(l, api.Range{Lo: lo, Hi: lo + next(3)*next(40)})
	}
	switch next(8) {
	case 0:
		l = classes.Not(l, mode.Chars)
	case 1:
		l = l[:0]
	case 2, 3, 4:
		c := '0' + next(10)
		l = []api.Range{{Lo: c, Hi: c}}
	}
	if mode.Fold {
		l = classes.Fold(l)
	}
	return classes.Norm(l, mode.Chars)
}

// maker makes trees that are right.
type maker struct {
	next  func(int) int
	mode  api.Mode
	class func() []api.Range
	begun int   // groups
	ended []int // those that ended
}

func (m *maker) pattern(deep int) api.Node {
	if m.next(3) > 0 {
		return m.branch(deep)
	}
	n := alt()
	for range 2 + m.next(2) {
		n.Kids = append(n.Kids, m.branch(deep+1))
	}
	return n
}

func (m *maker) branch(deep int) api.Node {
	switch m.next(10) {
	case 0:
		return empty()
	case 1:
		return begin()
	case 2:
		return end()
	case 3, 4:
		return m.thing(deep)
	}
	n := cat()
	if m.next(4) == 0 {
		n.Kids = append(n.Kids, begin())
	}
	for range 2 + m.next(3) {
		n.Kids = append(n.Kids, m.thing(deep+1))
	}
	if m.next(4) == 0 {
		n.Kids = append(n.Kids, end())
	}
	return n
}

func (m *maker) thing(deep int) api.Node {
	kind := m.next(9)
	switch {
	case kind < 3 && deep < 12 && m.begun < 30:
		m.begun++
		number := m.begun
		n := group(number, m.pattern(deep+1))
		m.ended = append(m.ended, number)
		return n
	case kind < 5 && deep < 37:
		least := []int{0, 0, 1, 2, 3, 40, 255}[m.next(7)]
		most := []int{api.Infinite, least, least, min(255, least+1), 255}[m.next(5)]
		return rep(m.thing(deep+1), least, most)
	case kind == 5 && len(m.ended) > 0:
		if number := m.ended[m.next(len(m.ended))]; number <= 9 {
			return back(number)
		}
	}
	return api.Node{Kind: api.NSet, Ranges: m.class()}
}

// spots is all nodes of a tree, to be written into.
func spots(n *api.Node) []*api.Node {
	l := []*api.Node{n}
	for i := range n.Kids {
		l = append(l, spots(&n.Kids[i])...)
	}
	return l
}

// spoil changes something about one node.
func spoil(n *api.Node, next func(int) int) {
	l := spots(n)
	at := l[next(len(l))]
	other := copied(*l[next(len(l))])
	switch next(9) {
	case 0:
		at.Kind = next(12) - 1
	case 1:
		at.N += next(4) - 2
	case 2:
		at.Min += next(512) - 256
	case 3:
		at.Max += next(512) - 256
	case 4:
		at.Ranges = append(at.Ranges, api.Range{Lo: next(300), Hi: next(300)})
	case 5:
		at.Kids = append(at.Kids, other)
	case 6:
		at.Kids = at.Kids[:next(len(at.Kids)+1)]
	case 7:
		*at = other
	case 8:
		*at = rep(*at, 0, 1)
	}
}

// shapes is all rows of trees that have so many nodes in all, each node without a kind.
func shapes(nodes int) [][]api.Node {
	if nodes == 0 {
		return [][]api.Node{nil}
	}
	var l [][]api.Node
	for first := 1; first <= nodes; first++ {
		for _, kids := range shapes(first - 1) {
			for _, rest := range shapes(nodes - first) {
				l = append(l, append([]api.Node{{Kids: kids}}, rest...))
			}
		}
	}
	return l
}

// laid is a shape with the labels that were chosen, in the tree's order.
func laid(shape api.Node, labels []api.Node, choice []int, at *int) api.Node {
	n := labels[choice[*at]]
	*at++
	for _, k := range shape.Kids {
		n.Kids = append(n.Kids, laid(k, labels, choice, at))
	}
	return n
}

// allTrees goes over all trees of so many nodes, each node one of the labels.
func allTrees(nodes int, labels []api.Node, look func(api.Node)) {
	for _, shape := range shapes(nodes) {
		if len(shape) > 1 {
			continue
		}
		choice := make([]int, nodes)
		for i := 0; i < nodes; {
			at := 0
			look(laid(shape[0], labels, choice, &at))
			for i = 0; i < nodes && choice[i] == len(labels)-1; i++ {
				choice[i] = 0
			}
			if i < nodes {
				choice[i]++
			}
		}
	}
}
