package compile_test

import (
	"fmt"
	"slices"
	"testing"

	"dredge/api"
	units "dredge/chars"
	"dredge/compile"
	"dredge/parse"
	"dredge/tree"
)

var (
	neither = api.Mode{}
	chars   = api.Mode{Chars: true}
	fold    = api.Mode{Fold: true}
	both    = api.Mode{Chars: true, Fold: true}
)

func modes() []api.Mode {
	return []api.Mode{neither, chars, fold, both}
}

// compiler is one of the layer's calls.
type compiler struct {
	name string
	of   func(api.Node, api.Mode) (api.Program, api.Errno)
}

func compilers() []compiler {
	return []compiler{{"Plain", compile.Plain}, {"Counted", compile.Counted}, {"Turned", compile.Turned}}
}

func empty() api.Node { return api.Node{Kind: api.NEmpty} }
func begin() api.Node { return api.Node{Kind: api.NBegin} }
func end() api.Node   { return api.Node{Kind: api.NEnd} }

// set is the node of ranges, each by its two bounds.
func set(bounds ...int) api.Node {
	n := api.Node{Kind: api.NSet}
	for i := 0; i < len(bounds); i += 2 {
		n.Ranges = append(n.Ranges, api.Range{Lo: bounds[i], Hi: bounds[i+1]})
	}
	return n
}

func char(c int) api.Node { return set(c, c) }

func cat(kids ...api.Node) api.Node { return api.Node{Kind: api.NCat, Kids: kids} }
func alt(kids ...api.Node) api.Node { return api.Node{Kind: api.NAlt, Kids: kids} }

func group(number int, kid api.Node) api.Node {
	return api.Node{Kind: api.NGroup, N: number, Kids: []api.Node{kid}}
}

func back(number int) api.Node { return api.Node{Kind: api.NBack, N: number} }

func rep(kid api.Node, least, most int) api.Node {
	return api.Node{Kind: api.NRep, Min: least, Max: most, Kids: []api.Node{kid}}
}

func star(kid api.Node) api.Node { return rep(kid, 0, api.Infinite) }

// many is a thing so many times, as Kids.
func many(n api.Node, times int) []api.Node {
	return slices.Repeat([]api.Node{n}, times)
}

// around is a node within so many others.
func around(n api.Node, times int, with func(api.Node) api.Node) api.Node {
	for range times {
		n = with(n)
	}
	return n
}

// of is a pattern's tree.
func of(t *testing.T, pattern string, mode api.Mode) api.Node {
	t.Helper()
	n, err := parse.Parse(pattern, mode)
	if err != nil {
		t.Fatalf("Parse(%q, %v): %v", pattern, mode, err)
	}
	return n
}

// endless is a tree that is its own Kid.
func endless(n api.Node) api.Node {
	n.Kids = make([]api.Node, max(1, len(n.Kids)))
	for i := range n.Kids {
		n.Kids[i] = n
	}
	return n
}

// short is the beginning of what something looks like: some of them are too great to be read.
func short(x any) string {
	s := fmt.Sprint(x)
	if len(s) > 300 {
		return s[:300] + ".."
	}
	return s
}

// spots is all nodes of a tree, to be written into.
func spots(n *api.Node) []*api.Node {
	l := []*api.Node{n}
	for i := range n.Kids {
		l = append(l, spots(&n.Kids[i])...)
	}
	return l
}

// copied is a tree in memory of its own.
func copied(n api.Node) api.Node {
	n.Ranges, n.Kids = slices.Clone(n.Ranges), slices.Clone(n.Kids)
	for i := range n.Kids {
		n.Kids[i] = copied(n.Kids[i])
	}
	return n
}

// numbers gives numbers below a bound, always the same ones.
func numbers(seed uint32) func(int) int {
	return func(below int) int {
		seed = seed*1664525 + 1013904223
		return int(seed>>8) % below
	}
}

// alphabet is the letters of a mode's lines.
func alphabet(mode api.Mode) []string {
	switch mode {
	case chars:
		return []string{"a", "b", "é", "€", "\xc3", "\xa9"}
	case fold:
		return []string{"a", "A", "-"}
	case both:
		return []string{"a", "A", "é", "\xa9"}
	}
	return []string{"a", "b", "\xe9"}
}

// linesOf is all lines of at most so many letters of an alphabet.
func linesOf(alphabet []string, most int) []string {
	l := []string{""}
	last := l
	for range most {
		var next []string
		for _, line := range last {
			for _, letter := range alphabet {
				next = append(next, line+letter)
			}
		}
		l, last = append(l, next...), next
	}
	return l
}

// placesOf is a line's places.
func placesOf(line string, mode api.Mode) []int {
	if mode.Chars {
		return units.Places(line)
	}
	l := make([]int, len(line)+1)
	for i := range l {
		l[i] = i
	}
	return l
}

// reversed is a line's bytes turned round.
func reversed(line string) string {
	l := []byte(line)
	slices.Reverse(l)
	return string(l)
}

// maker makes trees that are right.
type maker struct {
	next  func(int) int
	mode  api.Mode
	refs  bool  // backreferences may be in them
	begun int   // groups
	ended []int // those that ended
}

func (m *maker) pattern(deep int) api.Node {
	if m.next(2) == 0 {
		return m.branch(deep)
	}
	n := alt()
	for range 2 + m.next(2) {
		n.Kids = append(n.Kids, m.branch(deep+1))
	}
	return n
}

func (m *maker) branch(deep int) api.Node {
	switch m.next(14) {
	case 0:
		return empty()
	case 1:
		return begin()
	case 2:
		return end()
	case 3, 4, 5:
		return m.thing(deep)
	}
	n := cat()
	if m.next(8) == 0 {
		n.Kids = append(n.Kids, begin())
	}
	for range 2 + m.next(2) {
		n.Kids = append(n.Kids, m.thing(deep+1))
	}
	if m.next(8) == 0 {
		n.Kids = append(n.Kids, end())
	}
	return n
}

func (m *maker) thing(deep int) api.Node {
	kind := m.next(12)
	switch {
	case kind < 4 && deep < 8 && m.begun < 9:
		m.begun++
		number := m.begun
		n := group(number, m.pattern(deep+1))
		m.ended = append(m.ended, number)
		return n
	case kind < 7 && deep < 10:
		bounds := [][2]int{{0, api.Infinite}, {0, api.Infinite}, {1, 1}, {0, 0}, {0, 1}, {1, api.Infinite}, {2, 2}, {2, 3}, {0, 2}, {2, api.Infinite}}
		b := bounds[m.next(len(bounds))]
		return rep(m.thing(deep+1), b[0], b[1])
	case kind < 9 && len(m.ended) > 0 && m.refs:
		return back(m.ended[m.next(len(m.ended))])
	}
	return m.set()
}

func (m *maker) set() api.Node {
	l := [][]int{{'a', 'a'}, {'b', 'b'}, {'a', 'b'}, {0xc3, 0xc3}, {0xe9, 0xe9}, {'b', 'b', 0xe9, 0xe9}, {}}
	if m.mode.Fold {
		l = [][]int{{'A', 'A', 'a', 'a'}, {'-', '-'}, {'A', 'B', 'a', 'b'}, {0xe9, 0xe9}, {'-', '-', 'A', 'A', 'a', 'a'}, {'-', '-'}, {}}
	}
	if m.mode.Chars {
		l = append(l, []int{0x80, 0xd7ff}, []int{0xe9, 0xe9, 0x20ac, 0x20ac}, []int{0, 64, 0xea, 0xd7ff, 0xe000, api.MaxRune})
	}
	at := m.next(2 * len(l))
	if at >= len(l) {
		at = m.next(2)
	}
	return set(l[at]...)
}

// treesOf is all right trees of so many nodes, mode neither, of a few leaves and bounds; by number of nodes.
func treesOf(most int) [][]api.Node {
	all := [][]api.Node{nil, {char('a'), char('b'), empty(), begin(), end(), back(1)}}
	for nodes := 2; nodes <= most; nodes++ {
		var l []api.Node
		for _, kid := range all[nodes-1] {
			l = append(l, group(1, kid), star(kid), rep(kid, 2, 2), rep(kid, 0, 1), rep(kid, 1, 2))
		}
		for _, row := range rowsOf(all, nodes-1) {
			if len(row) >= 2 {
				l = append(l, cat(row...), alt(row...))
			}
		}
		all = append(all, l)
	}
	right := make([][]api.Node, len(all))
	for i, l := range all {
		for _, n := range l {
			n = renumbered(n)
			if tree.Right(n, neither) == api.OK {
				right[i] = append(right[i], n)
			}
		}
	}
	return right
}

// rowsOf is all rows of trees that have so many nodes together.
func rowsOf(all [][]api.Node, nodes int) [][]api.Node {
	if nodes == 0 {
		return [][]api.Node{nil}
	}
	var l [][]api.Node
	for first := 1; first <= nodes && first < len(all); first++ {
		for _, rest := range rowsOf(all, nodes-first) {
			for _, n := range all[first] {
				l = append(l, append([]api.Node{n}, rest...))
			}
		}
	}
	return l
}

// renumbered is a copy of a tree whose groups have their numbers.
func renumbered(n api.Node) api.Node {
	n = copied(n)
	groups := 0
	for _, s := range spots(&n) {
		if s.Kind == api.NGroup {
			groups++
			s.N = groups
		}
	}
	return n
}
