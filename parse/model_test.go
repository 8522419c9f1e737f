package parse_test

import (
	"slices"
	"strings"
	"testing"

	"dredge/api"
	"dredge/lexer"
	"dredge/parse"
	"dredge/tree"
)

// The model: tokens are counted, and their ends looked for, as the chapter's words ask of each; a tree is read from the back.

// model is all tokens of a pattern.
type model []api.Token

// ahead is how many tokens of a kind stand ahead of the i-th.
func (m model) ahead(i, kind int) int {
	n := 0
	for _, t := range m[:i] {
		if t.Kind == kind {
			n++
		}
	}
	return n
}

// close is the TokClose of the TokOpen i, or -1.
func (m model) close(i int) int {
	deep := 0
	for j := i; j < len(m); j++ {
		switch m[j].Kind {
		case api.TokOpen:
			deep++
		case api.TokClose:
			deep--
		}
		if deep == 0 {
			return j
		}
	}
	return -1
}

// wrong is what is wrong with the i-th token, if with those ahead nothing is.
func (m model) wrong(i int) api.Errno {
	switch m[i].Kind {
	case api.TokClose:
		if m.ahead(i, api.TokClose) == m.ahead(i, api.TokOpen) {
			return api.ErrClose
		}
	case api.TokOpen:
		if m.ahead(i, api.TokOpen) >= 30 {
			return api.ErrMany
		}
	case api.TokBack:
		for j, t := range m[:i] {
			if t.Kind == api.TokOpen && m.ahead(j, api.TokOpen)+1 == m[i].N && m.close(j) >= 0 && m.close(j) < i {
				return api.OK
			}
		}
		return api.ErrBack
	}
	return api.OK
}

// firstWrong is what is wrong with the tokens, nil: nothing.
func (m model) firstWrong() *api.Bad {
	for i, t := range m {
		if e := m.wrong(i); e != api.OK {
			return &api.Bad{Code: e, At: t.At}
		}
	}
	for i, t := range m {
		if t.Kind == api.TokOpen && m.close(i) < 0 {
			return &api.Bad{Code: api.ErrOpen, At: t.At}
		}
	}
	return nil
}

// pattern is the tree of the tokens from one place on, up to another.
func (m model) pattern(from, to int) api.Node {
	deep, first := 0, from
	var branches []api.Node
	for i := from; i < to; i++ {
		switch m[i].Kind {
		case api.TokOpen:
			deep++
		case api.TokClose:
			deep--
		case api.TokAlt:
			if deep == 0 {
				branches = append(branches, m.branch(first, i))
				first = i + 1
			}
		}
	}
	if branches == nil {
		return m.branch(from, to)
	}
	return alt(append(branches, m.branch(first, to))...)
}

func (m model) branch(from, to int) api.Node {
	var items []api.Node
	for to > from {
		n, at := m.last(to)
		items = append(items, n)
		to = at
	}
	slices.Reverse(items)
	switch len(items) {
	case 0:
		return empty()
	case 1:
		return items[0]
	}
	return cat(items...)
}

// last is the item that ends ahead of a place, and where it begins.
func (m model) last(to int) (api.Node, int) {
	t := m[to-1]
	switch t.Kind {
	case api.TokRep:
		n, at := m.last(to - 1)
		return rep(n, t.Min, t.Max), at
	case api.TokClose:
		at := slices.IndexFunc(m, func(o api.Token) bool { return o.Kind == api.TokOpen && m.closeAt(o.At) == to-1 })
		return group(m.ahead(at, api.TokOpen)+1, m.pattern(at+1, to-1)), at
	}
	kinds := map[int]int{api.TokSet: api.NSet, api.TokBack: api.NBack, api.TokBegin: api.NBegin, api.TokEnd: api.NEnd}
	return api.Node{Kind: kinds[t.Kind], N: t.N, Ranges: t.Ranges}, to - 1
}

// closeAt is close of the TokOpen at a place of the pattern.
func (m model) closeAt(at int) int {
	return m.close(slices.IndexFunc(m, func(t api.Token) bool { return t.At == at }))
}

// sizes is how many nodes a tree has, and how deep it is.
func sizes(n api.Node) (nodes, deep int) {
	for _, k := range n.Kids {
		a, b := sizes(k)
		nodes, deep = nodes+a, max(deep, b)
	}
	return nodes + 1, deep + 1
}

func modelParse(pattern string, mode api.Mode) (api.Node, *api.Bad) {
	l, err := lexer.Lex(pattern, mode)
	if err != nil {
		return api.Node{}, err.(*api.Bad)
	}
	m := model(l)
	if bad := m.firstWrong(); bad != nil {
		return api.Node{}, bad
	}
	n := m.pattern(0, len(m))
	nodes, deep := sizes(n)
	if deep > 40 {
		return api.Node{}, &api.Bad{Code: api.ErrDeep}
	}
	if nodes > 2000 {
		return api.Node{}, &api.Bad{Code: api.ErrMany}
	}
	return n, nil
}

// asModel holds Parse against the model, and a tree against chapter 8; it is what was told.
func asModel(t *testing.T, pattern string, mode api.Mode) api.Errno {
	t.Helper()
	want, bad := modelParse(pattern, mode)
	n, err := parse.Parse(pattern, mode)
	if bad != nil {
		if x, ok := err.(*api.Bad); !ok || *x != *bad || !equal(n, api.Node{}) {
			t.Fatalf("Parse(%q, %v): %v, %v; not %v", pattern, mode, short(n), err, bad)
		}
		return bad.Code
	}
	if err != nil || !equal(n, want) {
		t.Fatalf("Parse(%q, %v): %v, %v; not %v", pattern, mode, short(n), err, short(want))
	}
	if e := tree.Right(n, mode); e != api.OK {
		t.Fatalf("Right of Parse(%q, %v): %v", pattern, mode, e)
	}
	return api.OK
}

// rows tells all rows of up to so many pieces, one behind the other.
func rows(pieces []string, most int, tell func(string)) {
	var from func(s string, left int)
	from = func(s string, left int) {
		tell(s)
		if left == 0 {
			return
		}
		for _, p := range pieces {
			from(s+p, left-1)
		}
	}
	from("", most)
}

// wasSeen: each of these was told so many times at least.
func wasSeen(t *testing.T, seen map[api.Errno]int, least int, codes ...api.Errno) {
	t.Helper()
	for _, e := range codes {
		if seen[e] < least {
			t.Errorf("only %d are %v", seen[e], e)
		}
	}
}

// TestAllTokens: P9.1 and P9.2, all short rows of tokens.
func TestAllTokens(t *testing.T) {
	seen := map[api.Errno]int{}
	rows([]string{`\(`, `\)`, `\|`, `\1`, `\2`, "*", "^", "$", `\{1,2\}`, "a"}, 5, func(s string) {
		seen[asModel(t, s, neither)]++
	})
	wasSeen(t, seen, 1000, api.OK, api.ErrOpen, api.ErrClose, api.ErrBack, api.ErrRepeat)
}

// TestAllGroups: P9.1 and P9.2, all rows of what groups are made of, that are longer.
func TestAllGroups(t *testing.T) {
	seen := map[api.Errno]int{}
	rows([]string{`\(`, `\)`, `\|`, `\2`, "*"}, 7, func(s string) {
		seen[asModel(t, s, fold)]++
	})
	wasSeen(t, seen, 1000, api.OK, api.ErrOpen, api.ErrClose, api.ErrBack)
}

// TestAllUnits: P9.1 and P9.2, all short rows of units.
func TestAllUnits(t *testing.T) {
	rows([]string{`\`, "(", ")", "|", "1", "*", "^", "$", "[", "]", "a", "\xc3", "\xa9"}, 4, func(s string) {
		asModel(t, s, both)
	})
}

// numbers gives numbers below a bound, always the same ones.
func numbers(seed uint32) func(int) int {
	return func(below int) int {
		seed = seed*1664525 + 1013904223
		return int(seed>>8) % below
	}
}

// TestLongRows: P9.1 and P9.2, long rows of tokens whose groups mostly end, some of them too deep, some with too many groups.
func TestLongRows(t *testing.T) {
	next := numbers(5)
	things := []string{"a", "Q", "é", ".", `\.`, "[a-f]", "[^]-a]", "[[:upper:]x]", "^", "$", `\|`, `\|`, "*", `\+`, `\?`, `\{3\}`, `\{0,255\}`}
	seen := map[api.Errno]int{}
	for range 1000 {
		var s strings.Builder
		open := 0
		for range next(250) {
			switch k := next(12); {
			case k == 0 || k == 1:
				s.WriteString(`\(`)
				open++
			case k <= 3 && open > 0:
				s.WriteString(`\)`)
				open--
			case k == 4 && next(20) == 0:
				s.WriteString("x" + strings.Repeat("*", 20+next(30)))
			case k == 5 && next(60) == 0:
				s.WriteString(`\` + string(rune('1'+next(3))))
			default:
				// Escapes that may not stand where they come would end most rows early: so something stands ahead of each.
				s.WriteString("b" + things[next(len(things))])
			}
		}
		if next(4) > 0 {
			s.WriteString(strings.Repeat(`\)`, open))
		}
		if next(20) == 0 {
			s.WriteString(`\)`)
		}
		for _, mode := range modes() {
			seen[asModel(t, s.String(), mode)]++
		}
	}
	wasSeen(t, seen, 100, api.OK, api.ErrOpen, api.ErrClose, api.ErrBack, api.ErrMany, api.ErrDeep)
}

// TestAnyBytes: P1 and T7, whatever a pattern is there is a tree that is right, or an error.
func TestAnyBytes(t *testing.T) {
	next := numbers(9)
	for range 1000 {
		l := make([]byte, next(2010))
		few := next(2) == 0
		for i := range l {
			l[i] = byte(next(256))
			if few {
				l[i] = `\\\\()|*a12$^`[next(13)]
			}
		}
		for _, mode := range modes() {
			asModel(t, string(l), mode)
			asModel(t, string(l[:min(len(l), 12)]), mode)
		}
	}
}
