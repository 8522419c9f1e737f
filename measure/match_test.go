package measure_test

import (
	"slices"
	"strings"
	"testing"

	"dredge/api"
	units "dredge/chars"
	"dredge/sets"
	"dredge/tree"
)

// matcher is chapter 00's relation in a line, as it is said there.
type matcher struct {
	line string
	mode api.Mode
}

// state is a place and an environment: of each group that may be referred to whether it is set, and its part.
type state struct {
	at    int
	isSet [10]bool
	parts [10]api.Span
}

// alike tells whether two texts are alike, byte by byte.
func alike(a, b string, mode api.Mode) bool {
	if mode.Fold {
		a, b = lowered(a), lowered(b)
	}
	return a == b
}

func lowered(s string) string {
	l := []byte(s)
	for i, b := range l {
		if b >= 'A' && b <= 'Z' {
			l[i] = b + 32
		}
	}
	return string(l)
}

// places are the line's.
func (m matcher) places() []int {
	if m.mode.Chars {
		return units.Places(m.line)
	}
	l := make([]int, len(m.line)+1)
	for i := range l {
		l[i] = i
	}
	return l
}

// unit is the character at a place (-1: none), and how many bytes it has.
func (m matcher) unit(at int) (int, int) {
	if m.mode.Chars || at == len(m.line) {
		return units.Next(m.line, at)
	}
	return int(m.line[at]), 1
}

// ends is where a node leads to, each once.
func (m matcher) ends(n api.Node, s state) []state {
	switch n.Kind {
	case api.NEmpty:
		return []state{s}
	case api.NSet:
		c, bytes := m.unit(s.at)
		in := slices.ContainsFunc(n.Ranges, func(r api.Range) bool { return r.Lo <= c && c <= r.Hi })
		s.at += bytes
		return only(s, in && bytes > 0)
	case api.NBegin:
		return only(s, s.at == 0)
	case api.NEnd:
		return only(s, s.at == len(m.line))
	case api.NCat:
		l := []state{s}
		for _, kid := range n.Kids {
			l = m.endsOfAll(kid, l)
		}
		return l
	case api.NAlt:
		var l []state
		for _, kid := range n.Kids {
			l = append(l, m.ends(kid, s)...)
		}
		return once(l)
	case api.NGroup:
		l := m.ends(n.Kids[0], s)
		for i := 0; i < len(l) && n.N < 10; i++ {
			l[i].isSet[n.N], l[i].parts[n.N] = true, api.Span{From: s.at, To: l[i].at}
		}
		return once(l)
	case api.NBack:
		part := m.line[s.parts[n.N].From:s.parts[n.N].To]
		if !s.isSet[n.N] || s.at+len(part) > len(m.line) || !alike(m.line[s.at:s.at+len(part)], part, m.mode) {
			return nil
		}
		s.at += len(part)
		return []state{s}
	}
	return m.turns(n, s)
}

// turns is where an NRep leads to.
func (m matcher) turns(n api.Node, s state) []state {
	l, ends := []state{s}, []state{}
	for turn := 0; len(l) > 0; turn++ {
		if turn >= n.Min {
			ends = append(ends, l...)
		}
		if turn == n.Max {
			break
		}
		var next []state
		for _, from := range l {
			for _, to := range m.ends(n.Kids[0], from) {
				if turn < n.Min || to.at > from.at {
					next = append(next, to)
				}
			}
		}
		next = once(next)
		if turn < n.Min && slices.Equal(next, l) {
			turn = n.Min - 1 // all turns up to there lead to these again
		}
		l = next
	}
	return once(ends)
}

func (m matcher) endsOfAll(n api.Node, l []state) []state {
	var all []state
	for _, s := range l {
		all = append(all, m.ends(n, s)...)
	}
	return once(all)
}

func only(s state, is bool) []state {
	if is {
		return []state{s}
	}
	return nil
}

// once is states without those that came up already.
func once(l []state) []state {
	if len(l) < 2 {
		return l
	}
	seen := map[state]bool{}
	return slices.DeleteFunc(l, func(s state) bool {
		is := seen[s]
		seen[s] = true
		return is
	})
}

// parts is all parts of the line that a tree matches.
func (m matcher) parts(n api.Node) []api.Span {
	var l []api.Span
	for _, at := range m.places() {
		for _, s := range m.ends(n, state{at: at}) {
			if part := (api.Span{From: at, To: s.at}); !slices.Contains(l, part) {
				l = append(l, part)
			}
		}
	}
	return l
}

// TestMatcher: the matcher itself, by chapter 00's examples: the first and longest part.
func TestMatcher(t *testing.T) {
	for _, x := range []struct {
		pattern, line string
		mode          api.Mode
		want          api.Span
	}{
		{"a*", "baac", neither, api.Span{From: 0, To: 0}},
		{`\(a*\)\1`, "aaaaa", neither, api.Span{From: 0, To: 4}},
		{`\(a*\)*\1`, "aa", neither, api.Span{From: 0, To: 2}},
		{`\(a\|ab\)\(c\|bcd\)`, "abcd", neither, api.Span{From: 0, To: 4}},
		{"^a", "aa", neither, api.Span{From: 0, To: 1}},
		{`\(\(a\)\|b\)*\2`, "aba", neither, api.Span{From: 0, To: 3}},
		{"x$", "xx", neither, api.Span{From: 1, To: 2}},
		{"[^a]", "€", chars, api.Span{From: 0, To: 3}},
		{"[^a]", "€", neither, api.Span{From: 0, To: 1}},
		{"x*", "\x82x", chars, api.Span{From: 0, To: 0}},
		{`\(a\{0,1\}\)\{2\}b\1c`, "abc", neither, api.Span{From: 0, To: 3}},
		{`\(ab*\)\1`, "xababbab", neither, api.Span{From: 1, To: 5}},
		{`a\{2,3\}`, "aaaa", neither, api.Span{From: 0, To: 3}},
		{`\(\)\{255\}\{255\}\{255\}\{255\}b`, "ab", neither, api.Span{From: 1, To: 2}},
		{`\(a\)\1B`, "aAb", fold, api.Span{From: 0, To: 3}},
	} {
		l := matcher{x.line, x.mode}.parts(of(t, x.pattern, x.mode))
		best := slices.MinFunc(l, func(a, b api.Span) int {
			if a.From != b.From {
				return a.From - b.From
			}
			return b.To - a.To
		})
		if best != x.want {
			t.Errorf("%q in %q, %v: %v, not %v", x.pattern, x.line, x.mode, best, x.want)
		}
	}
}

// isCertain: P11.7, all that is told of a tree is so of each part that it matches.
func (m matcher) isCertain(t *testing.T, n api.Node, a answers, told map[string]int) {
	t.Helper()
	l := m.parts(n)
	for _, part := range l {
		text := m.line[part.From:part.To]
		note(told, a)
		told["part"]++
		if wide := a.most == api.Infinite || len(text) <= a.most; len(text) < a.least || !wide {
			t.Errorf("Widths of %s, %v: %d, %d; but %q is matched", short(n), m.mode, a.least, a.most, text)
		}
		if a.begins && part.From != 0 || a.ends && part.To != len(m.line) {
			t.Errorf("Anchored of %s, %v: %v, %v; but %v of %q is matched", short(n), m.mode, a.begins, a.ends, part, m.line)
		}
		if text == "" && !a.none || text != "" && !sets.Has(a.first, int(text[0])) {
			t.Errorf("First of %s, %v: %v, %v; but %q is matched", short(n), m.mode, sets.Ranges(a.first), a.none, text)
		}
		if a.isLiteral && !alike(text, a.literal, m.mode) {
			t.Errorf("Literal of %s, %v: %q; but %q is matched", short(n), m.mode, a.literal, text)
		}
		if len(text) < len(a.prefix) || !alike(text[:len(a.prefix)], a.prefix, m.mode) {
			t.Errorf("Prefix of %s, %v: %q; but %q is matched", short(n), m.mode, a.prefix, text)
		}
	}
	if !a.isLiteral || hasAnchors(n) {
		return
	}
	for _, at := range m.places() {
		if !strings.HasPrefix(m.line[at:], a.literal) {
			continue
		}
		told["stands"]++
		if !slices.Contains(l, api.Span{From: at, To: at + len(a.literal)}) {
			t.Errorf("Literal of %s, %v: %q; but it is not matched at %d of %q", short(n), m.mode, a.literal, at, m.line)
		}
	}
}

func hasAnchors(n api.Node) bool {
	return slices.ContainsFunc(spots(&n), func(at *api.Node) bool { return at.Kind == api.NBegin || at.Kind == api.NEnd })
}

// linesOf is all lines of at most so many letters of an alphabet.
func linesOf(alphabet []string, most int) []string {
	l := []string{""}
	last := l
	for range most {
		var next []string
		for _, line := range last {
			for _, letter := range alphabet {
				next = append(next, line+letter)
			}
		}
		l, last = append(l, next...), next
	}
	return l
}

// smallClass is a class of some of the letters of a mode's lines.
func smallClass(next func(int) int, mode api.Mode) []api.Range {
	l := [][]int{{'a', 'a'}, {'b', 'b'}, {'a', 'b'}, {0xc3, 0xc3}, {0xe9, 0xe9}, {'b', 'b', 0xe9, 0xe9}, {}}
	if mode.Fold {
		l = [][]int{{'A', 'A', 'a', 'a'}, {'-', '-'}, {'A', 'B', 'a', 'b'}, {0xe9, 0xe9}, {'-', '-', 'A', 'A', 'a', 'a'}, {'-', '-'}, {}}
	}
	at := next(2 * len(l))
	if at >= len(l) {
		at = next(2)
	}
	return set(l[at]...).Ranges
}

// alphabet is the letters of a mode's lines.
func alphabet(mode api.Mode) []string {
	switch mode {
	case chars:
		return []string{"a", "b", "é", "\xc3"}
	case fold:
		return []string{"a", "A", "-"}
	case both:
		return []string{"a", "A", "-", "é"}
	}
	return []string{"a", "b", "\xe9"}
}

// TestCertain: P11.7, many trees in all short lines.
func TestCertain(t *testing.T) {
	next := numbers(13)
	told := map[string]int{}
	for i := range 6000 {
		mk := &maker{next: next, mode: modes()[i%4]}
		mk.class = func() []api.Range { return smallClass(next, mk.mode) }
		n := mk.pattern(1)
		if tree.Count(n) > 25 {
			continue
		}
		a := measured(n, mk.mode)
		for _, line := range linesOf(alphabet(mk.mode), 3) {
			matcher{line, mk.mode}.isCertain(t, n, a, told)
		}
	}
	for _, what := range []string{"part", "used", "least", "most", "begins", "ends", "none", "literal", "prefix", "stands"} {
		if told[what] < 1000 {
			t.Errorf("only %d parts: %s", told[what], what)
		}
	}
}

// TestSmallCertain: P11.7, all right trees of few nodes in all short lines.
func TestSmallCertain(t *testing.T) {
	labels := []api.Node{char('a'), char('b'), begin(), end(), cat(), alt(), {Kind: api.NGroup, N: 1}, back(1), {Kind: api.NRep, Max: api.Infinite}, {Kind: api.NRep, Min: 2, Max: 2}}
	lines := linesOf([]string{"a", "b"}, 4)
	told := map[string]int{}
	for nodes := 1; nodes <= 5; nodes++ {
		allTrees(nodes, labels, func(n api.Node) {
			if tree.Right(n, neither) != api.OK {
				return
			}
			a := measured(n, neither)
			for _, line := range lines {
				matcher{line, neither}.isCertain(t, n, a, told)
			}
		})
	}
	for _, what := range []string{"part", "used", "least", "most", "begins", "ends", "none", "literal", "prefix", "stands"} {
		if told[what] < 1000 {
			t.Errorf("only %d parts: %s", told[what], what)
		}
	}
}

// TestLongCertain: P11.7, texts and widths that are about the limits.
func TestLongCertain(t *testing.T) {
	told := map[string]int{}
	a := func(n int) string { return strings.Repeat("a", n) }
	for _, pattern := range []string{`a\{250\}\{4\}`, `a\{250\}\{4\}b`, `ba\{250\}\{4\}`, `\(a\{250\}\)\{3\}\1b*`, `a\{255\}\{4,\}`} {
		n := of(t, pattern, neither)
		for _, line := range []string{a(999), a(1000), "b" + a(1000) + "bb", a(1003)} {
			matcher{line, neither}.isCertain(t, n, measured(n, neither), told)
		}
	}
	if told["part"] < 10 || told["longest"] < 5 || told["stands"] < 5 {
		t.Errorf("parts: %v", told)
	}
}
