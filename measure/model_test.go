package measure_test

import (
	"math/big"
	"slices"
	"strings"
	"testing"

	"dredge/api"
	"dredge/sets"
	"dredge/tree"
)

// The model: the chapter's sentences one by one, each a function that goes down a tree; numbers without bounds, groups looked for in the tree.
type model struct {
	root  api.Node
	mode  api.Mode
	leads [256]api.Range
}

// groupOf is a group's node.
func (m model) groupOf(number int) api.Node {
	for _, n := range spots(&m.root) {
		if n.Kind == api.NGroup && n.N == number {
			return *n
		}
	}
	return api.Node{}
}

func number(n int) *big.Int { return big.NewInt(int64(n)) }

// size has no bound.
func (m model) size(n api.Node) *big.Int {
	kids := number(0)
	for _, kid := range n.Kids {
		kids.Add(kids, m.size(kid))
	}
	switch n.Kind {
	case api.NSet:
		wide, other := 0, 0
		for _, r := range n.Ranges {
			if m.mode.Chars && r.Hi >= 128 {
				wide++
			} else {
				other = 1
			}
		}
		return number(max(1, 16*wide+other))
	case api.NCat, api.NAlt:
		return kids.Add(kids, number(len(n.Kids)))
	case api.NGroup:
		return kids.Add(kids, number(2))
	case api.NRep:
		times := n.Max
		if n.Max == api.Infinite {
			times = n.Min + 1
		}
		if times == 0 {
			times = 1
		}
		return kids.Mul(kids.Add(kids, number(2)), number(times))
	}
	return number(1)
}

// bytes is how many a character has.
func (m model) bytes(c int) int {
	if !m.mode.Chars {
		return 1
	}
	return len(string(rune(c)))
}

// least has no bound.
func (m model) least(n api.Node) *big.Int {
	all := number(0)
	switch n.Kind {
	case api.NSet:
		if len(n.Ranges) > 0 {
			return number(m.bytes(n.Ranges[0].Lo))
		}
	case api.NCat, api.NGroup:
		for _, kid := range n.Kids {
			all.Add(all, m.least(kid))
		}
	case api.NAlt:
		for i, kid := range n.Kids {
			if x := m.least(kid); i == 0 || x.Cmp(all) < 0 {
				all = x
			}
		}
	case api.NBack:
		return m.least(m.groupOf(n.N))
	case api.NRep:
		return all.Mul(number(n.Min), m.least(n.Kids[0]))
	}
	return all
}

// most has no bound; it is nil, if it is Infinite.
func (m model) most(n api.Node) *big.Int {
	all := number(0)
	switch n.Kind {
	case api.NSet:
		if len(n.Ranges) > 0 {
			return number(m.bytes(n.Ranges[len(n.Ranges)-1].Hi))
		}
	case api.NCat, api.NGroup, api.NAlt:
		for _, kid := range n.Kids {
			x := m.most(kid)
			switch {
			case x == nil:
				return nil
			case n.Kind != api.NAlt:
				all.Add(all, x)
			case x.Cmp(all) > 0:
				all = x
			}
		}
	case api.NBack:
		return m.most(m.groupOf(n.N))
	case api.NRep:
		x := m.most(n.Kids[0])
		if n.Max == 0 || x != nil && x.Sign() == 0 {
			return all
		}
		if n.Max == api.Infinite || x == nil {
			return nil
		}
		return all.Mul(number(n.Max), x)
	}
	return all
}

// anchored tells of a kind of anchors: is it at the edge, where the Kid that stands there is asked?
func (m model) anchored(n api.Node, kind int, edge func([]api.Node) api.Node) bool {
	asks := func(kid api.Node) bool { return m.anchored(kid, kind, edge) }
	switch n.Kind {
	case kind:
		return true
	case api.NCat:
		return asks(edge(n.Kids))
	case api.NAlt:
		return !slices.ContainsFunc(n.Kids, func(kid api.Node) bool { return !asks(kid) })
	case api.NGroup:
		return asks(n.Kids[0])
	case api.NRep:
		return n.Min > 0 && asks(n.Kids[0])
	}
	return false
}

// none tells whether a match may have no bytes.
func (m model) none(n api.Node) bool {
	switch n.Kind {
	case api.NSet:
		return false
	case api.NCat:
		return !slices.ContainsFunc(n.Kids, func(kid api.Node) bool { return !m.none(kid) })
	case api.NAlt, api.NGroup:
		return slices.ContainsFunc(n.Kids, m.none)
	case api.NBack:
		return m.none(m.groupOf(n.N))
	case api.NRep:
		return n.Min == 0 || m.none(n.Kids[0])
	}
	return true
}

// firsts tells of each byte whether a match may begin with it.
func (m model) firsts(n api.Node) [256]bool {
	var in [256]bool
	kids := n.Kids
	switch n.Kind {
	case api.NSet:
		for b := range in {
			in[b] = slices.ContainsFunc(n.Ranges, func(r api.Range) bool { return m.isFirst(b, r) })
		}
	case api.NCat:
		if no := slices.IndexFunc(kids, func(kid api.Node) bool { return !m.none(kid) }); no >= 0 {
			kids = kids[:no+1]
		}
	case api.NBack:
		kids = []api.Node{m.groupOf(n.N)}
	case api.NRep:
		if n.Max == 0 {
			kids = nil
		}
	}
	for _, kid := range kids {
		for b, is := range m.firsts(kid) {
			in[b] = in[b] || is
		}
	}
	return in
}

// isFirst tells whether a byte is the first one of a character of a range.
func (m model) isFirst(b int, r api.Range) bool {
	if !m.mode.Chars {
		return r.Lo <= b && b <= r.Hi
	}
	lead := m.leads[b]
	return (b == 0 || lead.Hi > 0) && r.Lo <= lead.Hi && r.Hi >= lead.Lo
}

func (m model) literal(n api.Node) (string, bool) {
	text, ok := "", false
	switch n.Kind {
	case api.NEmpty:
		ok = true
	case api.NSet:
		if len(n.Ranges) == 1 && n.Ranges[0].Lo == n.Ranges[0].Hi {
			text, ok = string([]byte{byte(n.Ranges[0].Lo)}), true
			if m.mode.Chars {
				text = string(rune(n.Ranges[0].Lo))
			}
		}
	case api.NCat, api.NGroup:
		ok = true
		for _, kid := range n.Kids {
			s, has := m.literal(kid)
			text, ok = text+s, ok && has
		}
	case api.NRep:
		if n.Max == 0 {
			return "", true
		}
		if n.Min == n.Max {
			text, ok = m.literal(n.Kids[0])
			text = strings.Repeat(text, n.Min)
		}
	}
	if !ok || len(text) > 1000 {
		return "", false
	}
	return text, true
}

func (m model) prefix(n api.Node) string {
	if s, ok := m.literal(n); ok {
		return s
	}
	text := ""
	switch n.Kind {
	case api.NCat:
		behind := slices.IndexFunc(n.Kids, func(kid api.Node) bool {
			s, ok := m.literal(kid)
			text += s
			return !ok && kid.Kind != api.NBegin
		})
		if behind >= 0 {
			text += m.prefix(n.Kids[behind])
		}
	case api.NGroup:
		text = m.prefix(n.Kids[0])
	case api.NRep:
		if s, ok := m.literal(n.Kids[0]); ok {
			text = strings.Repeat(s, n.Min)
		} else if n.Min > 0 {
			text = m.prefix(n.Kids[0])
		}
	}
	return text[:min(len(text), 1000)]
}

// answers is what the model says of its tree.
func (m model) answers() answers {
	n := m.root
	a := answers{free: true, size: 10001, least: 1000000, most: api.Infinite}
	for _, at := range spots(&n) {
		if at.Kind == api.NBack && !slices.Contains(a.used, at.N) {
			a.used, a.free = append(a.used, at.N), false
		}
	}
	slices.Sort(a.used)
	if x := m.size(n); x.Cmp(number(10000)) <= 0 {
		a.size = int(x.Int64())
	}
	if x := m.least(n); x.Cmp(number(1000000)) <= 0 {
		a.least = int(x.Int64())
	}
	if x := m.most(n); x != nil && x.Cmp(number(1000000)) <= 0 {
		a.most = int(x.Int64())
	}
	a.begins = m.anchored(n, api.NBegin, func(l []api.Node) api.Node { return l[0] })
	a.ends = m.anchored(n, api.NEnd, func(l []api.Node) api.Node { return l[len(l)-1] })
	a.none = m.none(n)
	for b, is := range m.firsts(n) {
		if is {
			a.first = sets.With(a.first, b)
		}
	}
	a.literal, a.isLiteral = m.literal(n)
	a.prefix = m.prefix(n)
	return a
}

// holds: P11.1 to P11.6, of any tree, against the model.
func (m model) holds(t *testing.T) bool {
	t.Helper()
	if tree.Right(m.root, m.mode) != api.OK {
		isNothing(t, m.root, m.mode)
		return false
	}
	if got, want := measured(m.root, m.mode), m.answers(); !got.equal(want) {
		t.Errorf("of %s, %v: %+v; not %+v", short(m.root), m.mode, got, want)
	}
	return true
}

// TestManyTrees: P11.1 to P11.6, trees that are made right, and spoilt.
func TestManyTrees(t *testing.T) {
	next := numbers(11)
	l := leads()
	told := map[string]int{}
	for i := range 8000 {
		mk := &maker{next: next, mode: modes()[i%4]}
		mk.class = func() []api.Range { return someClass(next, mk.mode) }
		m := model{root: mk.pattern(1), mode: mk.mode, leads: l}
		if !m.holds(t) {
			t.Fatalf("the maker's tree %s is not right", short(m.root))
		}
		note(told, m.answers())
		spoil(&m.root, next)
		if m.holds(t) {
			told["spoilt, but right"]++
		} else {
			told["not right"]++
		}
	}
	for _, what := range []string{"spoilt, but right", "not right", "used", "size", "too large", "least", "most", "begins", "ends", "none", "literal", "prefix", "long"} {
		if told[what] < 40 {
			t.Errorf("only %d trees: %s", told[what], what)
		}
	}
}

// TestManyTurns: P11.2, P11.3 and P11.6, turns of turns about the limits.
func TestManyTurns(t *testing.T) {
	next := numbers(12)
	l := leads()
	told := map[string]int{}
	for i := range 4000 {
		mode := modes()[i%4]
		n := cat(group(1, alt(char('0'), rep(char('1'), 4, 5))))
		for range 1 + next(3) {
			thing := []api.Node{char('2'), set('3', '5'), char(0xe9), back(1)}[next(4)]
			for range next(5) {
				least := []int{0, 1, 2, 4, 5, 10, 20, 25, 50, 100, 200, 250}[next(12)]
				most := []int{least, least, least, api.Infinite, least + 1}[next(5)]
				thing = rep(thing, least, most)
			}
			n.Kids = append(n.Kids, thing)
		}
		if next(2) == 0 {
			n.Kids[0] = rep(n.Kids[0], 0, 0)
		}
		m := model{root: n, mode: mode, leads: l}
		if !m.holds(t) {
			t.Fatalf("%s is not right", short(n))
		}
		note(told, m.answers())
	}
	for _, what := range []string{"size", "too large", "least", "far", "most", "literal", "prefix", "long", "longest"} {
		if told[what] < 40 {
			t.Errorf("only %d trees: %s", told[what], what)
		}
	}
}

// note counts of which kinds answers are: a test that sees one kind alone would prove little.
func note(told map[string]int, a answers) {
	for what, is := range map[string]bool{
		"used": !a.free, "size": a.size > 100 && a.size < 10001, "too large": a.size == 10001,
		"least": a.least > 0 && a.least < 1000000, "far": a.least == 1000000, "most": a.most > 0,
		"begins": a.begins, "ends": a.ends, "none": a.none,
		"literal": a.isLiteral && a.literal != "", "prefix": !a.isLiteral && a.prefix != "", "long": len(a.prefix) > 100, "longest": len(a.prefix) == 1000,
	} {
		if is {
			told[what]++
		}
	}
}

// TestAllSmallTrees: P11.1 to P11.6, all trees of few nodes.
func TestAllSmallTrees(t *testing.T) {
	few := []api.Node{char('*'), begin(), cat(), alt(), {Kind: api.NGroup, N: 1}, back(1), {Kind: api.NRep, Max: api.Infinite}}
	more := append(slices.Clone(few), end(), empty(), set(), set('-', '-', 200, 201), api.Node{Kind: api.NGroup, N: 2}, api.Node{Kind: api.NRep}, api.Node{Kind: api.NRep, Min: 2, Max: 2})
	l := leads()
	right := 0
	for nodes := 1; nodes <= 5; nodes++ {
		labels := more
		if nodes == 5 {
			labels = few
		}
		allTrees(nodes, labels, func(n api.Node) {
			for _, mode := range []api.Mode{neither, chars} {
				if (model{root: n, mode: mode, leads: l}).holds(t) {
					right++
				}
			}
		})
	}
	if right < 1000 {
		t.Errorf("only %d trees are right", right)
	}
}
