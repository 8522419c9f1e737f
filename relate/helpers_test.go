package relate_test

import (
	"fmt"
	"slices"
	"testing"

	"dredge/api"
	"dredge/classes"
	"dredge/measure"
	"dredge/parse"
	"dredge/tree"
)

var (
	neither = api.Mode{}
	chars   = api.Mode{Chars: true}
	fold    = api.Mode{Fold: true}
	both    = api.Mode{Chars: true, Fold: true}
)

func modes() []api.Mode {
	return []api.Mode{neither, chars, fold, both}
}

func empty() api.Node { return api.Node{Kind: api.NEmpty} }
func begin() api.Node { return api.Node{Kind: api.NBegin} }
func end() api.Node   { return api.Node{Kind: api.NEnd} }

// set is the node of ranges, each by its two bounds.
func set(bounds ...int) api.Node {
	n := api.Node{Kind: api.NSet}
	for i := 0; i < len(bounds); i += 2 {
		n.Ranges = append(n.Ranges, api.Range{Lo: bounds[i], Hi: bounds[i+1]})
	}
	return n
}

func char(c int) api.Node { return set(c, c) }

func cat(kids ...api.Node) api.Node { return api.Node{Kind: api.NCat, Kids: kids} }
func alt(kids ...api.Node) api.Node { return api.Node{Kind: api.NAlt, Kids: kids} }

func group(number int, kid api.Node) api.Node {
	return api.Node{Kind: api.NGroup, N: number, Kids: []api.Node{kid}}
}

func back(number int) api.Node { return api.Node{Kind: api.NBack, N: number} }

func rep(kid api.Node, least, most int) api.Node {
	return api.Node{Kind: api.NRep, Min: least, Max: most, Kids: []api.Node{kid}}
}

func star(kid api.Node) api.Node { return rep(kid, 0, api.Infinite) }

// many is a thing so many times, as Kids.
func many(n api.Node, times int) []api.Node {
	return slices.Repeat([]api.Node{n}, times)
}

// of is a pattern's tree.
func of(t *testing.T, pattern string, mode api.Mode) api.Node {
	t.Helper()
	n, err := parse.Parse(pattern, mode)
	if err != nil {
		t.Fatalf("Parse(%q, %v): %v", pattern, mode, err)
	}
	return n
}

// endless is a tree that is its own Kid.
func endless(n api.Node) api.Node {
	n.Kids = make([]api.Node, max(1, len(n.Kids)))
	for i := range n.Kids {
		n.Kids[i] = n
	}
	return n
}

// proof is a proof of a part with Kids.
func proof(from, to int, kids ...api.Proof) api.Proof {
	return api.Proof{From: from, To: to, Kids: kids}
}

// which is a proof of an NAlt.
func which(number int, kid api.Proof) api.Proof {
	return api.Proof{From: kid.From, To: kid.To, Which: number, Kids: []api.Proof{kid}}
}

// short is the beginning of what something looks like: some of them are too great to be read.
func short(x any) string {
	s := fmt.Sprint(x)
	if len(s) > 300 {
		return s[:300] + ".."
	}
	return s
}

// copied is a tree in memory of its own, copiedProof a proof.
func copied(n api.Node) api.Node {
	n.Ranges, n.Kids = slices.Clone(n.Ranges), slices.Clone(n.Kids)
	for i := range n.Kids {
		n.Kids[i] = copied(n.Kids[i])
	}
	return n
}

func copiedProof(p api.Proof) api.Proof {
	p.Kids = slices.Clone(p.Kids)
	for i := range p.Kids {
		p.Kids[i] = copiedProof(p.Kids[i])
	}
	return p
}

// numbers gives numbers below a bound, always the same ones.
func numbers(seed uint32) func(int) int {
	return func(below int) int {
		seed = seed*1664525 + 1013904223
		return int(seed>>8) % below
	}
}

// alphabet is the letters of a mode's lines.
func alphabet(mode api.Mode) []string {
	switch mode {
	case chars:
		return []string{"a", "b", "é", "\xc3"}
	case fold:
		return []string{"a", "A", "-"}
	case both:
		return []string{"a", "A", "-", "é"}
	}
	return []string{"a", "b", "\xe9"}
}

// someClass is a class of some of the letters of a mode's lines.
func someClass(next func(int) int, mode api.Mode) []api.Range {
	l := [][]int{{'a', 'a'}, {'b', 'b'}, {'a', 'b'}, {0xc3, 0xc3}, {0xe9, 0xe9}, {'b', 'b', 0xe9, 0xe9}, {}}
	if mode.Fold {
		l = [][]int{{'A', 'A', 'a', 'a'}, {'-', '-'}, {'A', 'B', 'a', 'b'}, {0xe9, 0xe9}, {'-', '-', 'A', 'A', 'a', 'a'}, {'-', '-'}, {}}
	}
	at := next(2 * len(l))
	if at >= len(l) {
		at = next(2)
	}
	return set(l[at]...).Ranges
}

// linesOf is all lines of at most so many letters of an alphabet.
func linesOf(alphabet []string, most int) []string {
	l := []string{""}
	last := l
	for range most {
		var next []string
		for _, line := range last {
			for _, letter := range alphabet {
				next = append(next, line+letter)
			}
		}
		l, last = append(l, next...), next
	}
	return l
}

// maker makes trees that are right.
type maker struct {
	next   func(int) int
	mode   api.Mode
	bounds []int // that reps have
	begun  int   // groups
	ended  []int // those that ended
}

func (m *maker) pattern(deep int) api.Node {
	if m.next(3) > 0 {
		return m.branch(deep)
	}
	n := alt()
	for range 2 + m.next(2) {
		n.Kids = append(n.Kids, m.branch(deep+1))
	}
	return n
}

func (m *maker) branch(deep int) api.Node {
	switch m.next(10) {
	case 0:
		return empty()
	case 1:
		return begin()
	case 2:
		return end()
	case 3, 4:
		return m.thing(deep)
	}
	n := cat()
	if m.next(4) == 0 {
		n.Kids = append(n.Kids, begin())
	}
	for range 2 + m.next(3) {
		n.Kids = append(n.Kids, m.thing(deep+1))
	}
	if m.next(4) == 0 {
		n.Kids = append(n.Kids, end())
	}
	return n
}

func (m *maker) thing(deep int) api.Node {
	kind := m.next(10)
	switch {
	case kind < 3 && deep < 12 && m.begun < 30:
		m.begun++
		number := m.begun
		n := group(number, m.pattern(deep+1))
		m.ended = append(m.ended, number)
		return n
	case kind < 5 && deep < 37:
		least := m.bounds[m.next(len(m.bounds))]
		most := []int{api.Infinite, least, least, least + 1, least + 2}[m.next(5)]
		return rep(m.thing(deep+1), least, most)
	case kind < 7 && len(m.ended) > 0:
		if number := m.ended[m.next(len(m.ended))]; number <= 9 {
			return back(number)
		}
	}
	return api.Node{Kind: api.NSet, Ranges: someClass(m.next, m.mode)}
}

// shapes is all rows of trees that have so many nodes in all, each node without a kind.
func shapes(nodes int) [][]api.Node {
	if nodes == 0 {
		return [][]api.Node{nil}
	}
	var l [][]api.Node
	for first := 1; first <= nodes; first++ {
		for _, kids := range shapes(first - 1) {
			for _, rest := range shapes(nodes - first) {
				l = append(l, append([]api.Node{{Kids: kids}}, rest...))
			}
		}
	}
	return l
}

// laid is a shape with the labels that were chosen, in the tree's order.
func laid(shape api.Node, labels []api.Node, choice []int, at *int) api.Node {
	n := labels[choice[*at]]
	*at++
	for _, k := range shape.Kids {
		n.Kids = append(n.Kids, laid(k, labels, choice, at))
	}
	return n
}

// allTrees goes over all right trees of so many nodes, each node one of the labels, mode neither.
func allTrees(nodes int, labels []api.Node, look func(api.Node)) {
	for _, shape := range shapes(nodes) {
		if len(shape) > 1 {
			continue
		}
		choice := make([]int, nodes)
		for i := 0; i < nodes; {
			at := 0
			if n := laid(shape[0], labels, choice, &at); tree.Right(n, neither) == api.OK {
				look(n)
			}
			for i = 0; i < nodes && choice[i] == len(labels)-1; i++ {
				choice[i] = 0
			}
			if i < nodes {
				choice[i]++
			}
		}
	}
}

// refusal is what P12.1 says of a tree, a line and places of it.
func refusal(n api.Node, line string, mode api.Mode, places ...int) api.Errno {
	if e := tree.Right(n, mode); e != api.OK {
		return e
	}
	if measure.Size(n, mode) > 10000 {
		return api.ErrSize
	}
	if tree.Count(n) > 60 || len(measure.Used(n, mode)) > 2 {
		return api.ErrMany
	}
	if len(line) > 24 {
		return api.ErrLong
	}
	for _, at := range places {
		if !slices.Contains(matcher{line, mode}.places(), at) {
			return api.ErrArg
		}
	}
	return api.OK
}

// folded is a tree with both cases of each letter.
func folded(n api.Node) api.Node {
	n = copied(n)
	if n.Kind == api.NSet {
		n.Ranges = classes.Fold(n.Ranges)
	}
	for i := range n.Kids {
		n.Kids[i] = folded(n.Kids[i])
	}
	return n
}
