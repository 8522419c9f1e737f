package relate_test

import (
	"fmt"
	"slices"
	"testing"

	"dredge/api"
	units "dredge/chars"
	"dredge/relate"
	"dredge/tree"
)

// matcher is chapter 00's relation in a line, as it is said there.
type matcher struct {
	line string
	mode api.Mode
}

// state is a place and an environment: of each group that may be referred to whether it is set, and its part.
type state struct {
	at    int
	isSet [10]bool
	parts [10]api.Span
}

// alike tells whether two texts are alike, byte by byte.
func alike(a, b string, mode api.Mode) bool {
	if mode.Fold {
		a, b = lowered(a), lowered(b)
	}
	return a == b
}

func lowered(s string) string {
	l := []byte(s)
	for i, b := range l {
		if b >= 'A' && b <= 'Z' {
			l[i] = b + 32
		}
	}
	return string(l)
}

// places are the line's.
func (m matcher) places() []int {
	if m.mode.Chars {
		return units.Places(m.line)
	}
	l := make([]int, len(m.line)+1)
	for i := range l {
		l[i] = i
	}
	return l
}

// unit is the character at a place (-1: none), and how many bytes it has.
func (m matcher) unit(at int) (int, int) {
	if m.mode.Chars || at == len(m.line) {
		return units.Next(m.line, at)
	}
	return int(m.line[at]), 1
}

// leaf is where a node without Kids leads to.
func (m matcher) leaf(n api.Node, s state) []state {
	switch n.Kind {
	case api.NSet:
		c, bytes := m.unit(s.at)
		in := slices.ContainsFunc(n.Ranges, func(r api.Range) bool { return r.Lo <= c && c <= r.Hi })
		s.at += bytes
		return only(s, in && bytes > 0)
	case api.NBegin:
		return only(s, s.at == 0)
	case api.NEnd:
		return only(s, s.at == len(m.line))
	case api.NBack:
		part := m.line[s.parts[n.N].From:s.parts[n.N].To]
		if !s.isSet[n.N] || s.at+len(part) > len(m.line) || !alike(m.line[s.at:s.at+len(part)], part, m.mode) {
			return nil
		}
		s.at += len(part)
	}
	return []state{s}
}

// ends is where a node leads to, each once.
func (m matcher) ends(n api.Node, s state) []state {
	switch n.Kind {
	case api.NCat:
		l := []state{s}
		for _, kid := range n.Kids {
			l = m.endsOfAll(kid, l)
		}
		return l
	case api.NAlt:
		var l []state
		for _, kid := range n.Kids {
			l = append(l, m.ends(kid, s)...)
		}
		return once(l)
	case api.NGroup:
		l := m.ends(n.Kids[0], s)
		for i := range l {
			l[i] = l[i].with(n.N, s.at)
		}
		return once(l)
	case api.NRep:
		return m.turns(n, s)
	}
	return m.leaf(n, s)
}

// with is a state in which a group ends.
func (s state) with(number, from int) state {
	if number < len(s.parts) {
		s.isSet[number], s.parts[number] = true, api.Span{From: from, To: s.at}
	}
	return s
}

// turns is where an NRep leads to.
func (m matcher) turns(n api.Node, s state) []state {
	l, ends := []state{s}, []state{}
	for turn := 0; len(l) > 0; turn++ {
		if turn >= n.Min {
			ends = append(ends, l...)
		}
		if turn == n.Max {
			break
		}
		var next []state
		for _, from := range l {
			for _, to := range m.ends(n.Kids[0], from) {
				if turn < n.Min || to.at > from.at {
					next = append(next, to)
				}
			}
		}
		next = once(next)
		if turn < n.Min && slices.Equal(next, l) {
			turn = n.Min - 1 // all turns up to there lead to these again
		}
		l = next
	}
	return once(ends)
}

func (m matcher) endsOfAll(n api.Node, l []state) []state {
	var all []state
	for _, s := range l {
		all = append(all, m.ends(n, s)...)
	}
	return once(all)
}

func only(s state, is bool) []state {
	if is {
		return []state{s}
	}
	return nil
}

// once is states without those that came up already.
func once(l []state) []state {
	if len(l) < 2 {
		return l
	}
	seen := map[state]bool{}
	return slices.DeleteFunc(l, func(s state) bool {
		is := seen[s]
		seen[s] = true
		return is
	})
}

// endsFrom is the ends of the parts that a tree matches from a place on.
func (m matcher) endsFrom(n api.Node, at int) []int {
	var l []int
	for _, s := range m.ends(n, state{at: at}) {
		l = append(l, s.at)
	}
	slices.Sort(l)
	return slices.Compact(l)
}

// lead is a proof, and the state to which it leads.
type lead struct {
	proof api.Proof
	to    state
}

// proofs is all proofs of a node from a state on, by the list of chapter 12.
func (m matcher) proofs(n api.Node, s state) []lead {
	var l []lead
	switch n.Kind {
	case api.NCat:
		l = []lead{{api.Proof{From: s.at, To: s.at}, s}}
		for _, kid := range n.Kids {
			l = m.longer(kid, l, func(lead) bool { return true })
		}
	case api.NAlt:
		for i, kid := range n.Kids {
			for _, x := range m.proofs(kid, s) {
				l = append(l, lead{which(i, x.proof), x.to})
			}
		}
	case api.NGroup:
		for _, x := range m.proofs(n.Kids[0], s) {
			l = append(l, lead{proof(s.at, x.to.at, x.proof), x.to.with(n.N, s.at)})
		}
	case api.NRep:
		row := []lead{{api.Proof{From: s.at, To: s.at}, s}}
		for turn := 0; len(row) > 0; turn++ {
			if turn >= n.Min {
				l = append(l, row...)
			}
			if turn == n.Max {
				break
			}
			row = m.longer(n.Kids[0], row, func(x lead) bool { return turn < n.Min || x.proof.To > x.proof.From })
		}
	default:
		for _, to := range m.leaf(n, s) {
			l = append(l, lead{proof(s.at, to.at), to})
		}
	}
	return l
}

// longer is rows of proofs, each with one more of a node behind it.
func (m matcher) longer(n api.Node, rows []lead, allowed func(lead) bool) []lead {
	var l []lead
	for _, row := range rows {
		for _, x := range m.proofs(n, row.to) {
			if allowed(x) {
				kids := append(slices.Clone(row.proof.Kids), x.proof)
				l = append(l, lead{proof(row.proof.From, x.to.at, kids...), x.to})
			}
		}
	}
	return l
}

// allProofs is all proofs of a tree, as texts: from each place and the empty environment.
func (m matcher) allProofs(n api.Node) ([]api.Proof, map[string]int) {
	var l []api.Proof
	texts := map[string]int{}
	for _, at := range m.places() {
		for _, x := range m.proofs(n, state{at: at}) {
			l = append(l, x.proof)
			texts[fmt.Sprint(x.proof)] = 1
		}
	}
	return l, texts
}

// TestMatcher: the matcher itself, by chapter 00's examples.
func TestMatcher(t *testing.T) {
	for _, x := range examples() {
		m, n := matcher{x.line, x.mode}, of(t, x.pattern, x.mode)
		var first api.Span
		for _, at := range m.places() {
			if l := m.endsFrom(n, at); len(l) > 0 {
				first = api.Span{From: at, To: slices.Max(l)}
				break
			}
		}
		if first != x.want {
			t.Errorf("%q in %q, %v: %v, not %v", x.pattern, x.line, x.mode, first, x.want)
		}
	}
}

// isRelated: P12.2, P12.4 and P12.5 of a tree in a line: what the calls tell is what the relation says.
func isRelated(t *testing.T, n api.Node, line string, mode api.Mode, told map[string]int) {
	t.Helper()
	m := matcher{line, mode}
	if e := refusal(n, line, mode, 0); e != api.OK {
		told["refused"]++
		isRefused(t, n, line, mode, 0, api.Span{}, e)
		return
	}
	var first *api.Span
	for _, at := range slices.Backward(m.places()) {
		want := m.endsFrom(n, at)
		if l, e := relate.Ends(n, line, at, mode); e != api.OK || !slices.Equal(l, want) {
			t.Errorf("Ends(%s, %q, %d, %v): %v, %v, not %v", short(n), line, at, mode, l, e, want)
		}
		if len(want) > 0 {
			first = &api.Span{From: at, To: slices.Max(want)}
		}
		isFound(t, n, line, at, mode, first, told)
		for _, to := range m.places() {
			if to >= at {
				isProved(t, n, line, api.Span{From: at, To: to}, mode, slices.Contains(want, to), told)
			}
		}
	}
}

func isFound(t *testing.T, n api.Node, line string, from int, mode api.Mode, want *api.Span, told map[string]int) {
	t.Helper()
	part, is, e := relate.Find(n, line, from, mode)
	if e != api.OK || is != (want != nil) || is && part != *want || !is && part != (api.Span{}) {
		t.Errorf("Find(%s, %q, %d, %v): %v, %v, %v, not %v", short(n), line, from, mode, part, is, e, want)
	}
	if is {
		told["found"]++
	} else {
		told["none"]++
	}
}

func isProved(t *testing.T, n api.Node, line string, part api.Span, mode api.Mode, want bool, told map[string]int) {
	t.Helper()
	p, is, e := relate.Prove(n, line, part, mode)
	if e != api.OK || is != want {
		t.Errorf("Prove(%s, %q, %v, %v): %v, %v, not %v", short(n), line, part, mode, is, e, want)
		return
	}
	if !is {
		told["unproved"]++
		if p.From != 0 || p.To != 0 || p.Which != 0 || len(p.Kids) > 0 {
			t.Errorf("Prove(%s, %q, %v, %v): %v, though there is none", short(n), line, part, mode, p)
		}
		return
	}
	told["proved"]++
	if p.From != part.From || p.To != part.To || !relate.Check(n, line, p, mode) {
		t.Errorf("Prove(%s, %q, %v, %v): %s is none", short(n), line, part, mode, short(p))
	}
}

// enough: each of some things came up so many times.
func enough(t *testing.T, told map[string]int, least int, things ...string) {
	t.Helper()
	for _, what := range things {
		if told[what] < least {
			t.Errorf("only %d times: %s", told[what], what)
		}
	}
}

// TestMany: P12.2, P12.4, P12.5: many trees in all short lines, all modes.
func TestMany(t *testing.T) {
	next := numbers(7)
	told := map[string]int{}
	for i := range 500 {
		mk := &maker{next: next, mode: modes()[i%4], bounds: []int{0, 0, 0, 1, 2, 3, 40, 253}}
		n := mk.pattern(1)
		if tree.Count(n) > 25 {
			continue
		}
		for _, line := range linesOf(alphabet(mk.mode), 3) {
			isRelated(t, n, line, mk.mode, told)
		}
	}
	enough(t, told, 300, "refused", "found", "none", "proved", "unproved")
}

// TestSmall: P12.2, P12.4, P12.5: all right trees of few nodes in all short lines.
func TestSmall(t *testing.T) {
	labels := []api.Node{char('a'), char('b'), empty(), begin(), end(), cat(), alt(), {Kind: api.NGroup, N: 1}, back(1), {Kind: api.NRep, Max: api.Infinite}, {Kind: api.NRep, Min: 2, Max: 3}}
	told := map[string]int{}
	for nodes := 1; nodes <= 5; nodes++ {
		allTrees(nodes, labels, func(n api.Node) {
			for _, line := range linesOf([]string{"a", "b"}, 7-nodes) {
				isRelated(t, n, line, neither, told)
			}
		})
	}
	enough(t, told, 1000, "found", "none", "proved", "unproved")
}

// TestMemory: P12.2, P12.4, P12.5: trees that set groups again and again and refer to them, in longer lines.
func TestMemory(t *testing.T) {
	told := map[string]int{}
	for _, pattern := range []string{
		`\(\(a\|b\)*\|b\)*\1\2`,
		`\(\(a*\)b\)*\2\1`,
		`\(\(a\)\|b\)*\2*\1`,
		`\(\(a*\)\|\(b*\)\)*\2\3`,
		`\(\(a*\)\|\(b*\)\|ab\)\{3\}\2\3`,
		`\(\(a*\)\(b*\)\)\{2,3\}\2\3`,
		`\(a\{0,1\}\)\{2\}b*\1a`,
		`\(\(a*\)\{2,\}b\)\{0,2\}\2`,
		`\(a\|\(b\)\)*\(\2\|\1\)*$`,
		`^\(\(a\|b\)\2*\)*\1$`,
		`\(\)*\(\(\)\)\{1,2\}\3b\|\(a*\)\4\{2\}`,
		`\(\(\(a*\)*\)*\)*\1\3`,
		`\(\(\(a*\)\{1,\}\)\{1,\}b\)\{1,\}\1\3`,
		`\(a*\)\(b\{0,1\}\1\)\{2\}\2`,
		`\(\(a\|b\)*\)\{0,1\}\1\2`,
		`\(a*\)\{0\}\1`,
	} {
		n := of(t, pattern, neither)
		for _, line := range linesOf([]string{"a", "b"}, 6) {
			isRelated(t, n, line, neither, told)
		}
		for _, line := range []string{"aAbBAb", "AbaBB", "abAB-a"} {
			isRelated(t, folded(n), line, fold, told)
		}
	}
	enough(t, told, 1000, "found", "none", "proved", "unproved")
}

// spoil changes something about one of a proof's proofs.
func spoil(p *api.Proof, next func(int) int) {
	l := spots(p)
	at := l[next(len(l))]
	other := copiedProof(*l[next(len(l))])
	switch next(8) {
	case 0:
		at.From += next(5) - 2
	case 1:
		at.To += next(5) - 2
	case 2:
		at.Which += next(5) - 2
	case 3:
		at.Kids = slices.Insert(at.Kids, next(len(at.Kids)+1), other)
	case 4:
		at.Kids = at.Kids[:next(len(at.Kids)+1)]
	case 5:
		*at = other
	case 6:
		at.Kids = slices.Insert(at.Kids, next(len(at.Kids)+1), proof(at.From, at.From))
	case 7:
		slices.Reverse(at.Kids)
	}
}

// spots is all proofs of a proof, to be written into.
func spots(p *api.Proof) []*api.Proof {
	l := []*api.Proof{p}
	for i := range p.Kids {
		l = append(l, spots(&p.Kids[i])...)
	}
	return l
}

// isChecked: P12.3 of a tree in a line: all its proofs are taken, and of spoilt ones those that are proofs.
func isChecked(t *testing.T, n api.Node, line string, mode api.Mode, next func(int) int, told map[string]int) {
	t.Helper()
	l, texts := matcher{line, mode}.allProofs(n)
	l = append(l, api.Proof{}, proof(0, len(line)), proof(0, 1, proof(0, 1)))
	for _, p := range l {
		for tries := range 6 {
			q := copiedProof(p)
			for range tries {
				spoil(&q, next)
			}
			want := texts[fmt.Sprint(q)] == 1
			if relate.Check(n, line, q, mode) != want {
				t.Errorf("Check(%s, %q, %s, %v): not %v", short(n), line, short(q), mode, want)
			}
			if want {
				told["proof"]++
			} else {
				told["none"]++
			}
		}
	}
}

// TestCheckMany: P12.3: many trees in short lines, all modes.
func TestCheckMany(t *testing.T) {
	next := numbers(19)
	told := map[string]int{}
	for i := range 2500 {
		mk := &maker{next: next, mode: modes()[i%4], bounds: []int{0, 0, 1, 2}}
		n := mk.pattern(1)
		if tree.Count(n) > 12 {
			continue
		}
		lines := linesOf(alphabet(mk.mode), 3)
		for range 6 {
			isChecked(t, n, lines[next(len(lines))], mk.mode, next, told)
		}
	}
	enough(t, told, 1000, "proof", "none")
}

// TestCheckSmall: P12.3: all right trees of few nodes in all short lines.
func TestCheckSmall(t *testing.T) {
	next := numbers(20)
	labels := []api.Node{char('a'), set('a', 'b'), empty(), end(), cat(), alt(), {Kind: api.NGroup, N: 1}, back(1), {Kind: api.NRep, Max: api.Infinite}, {Kind: api.NRep, Min: 1, Max: 2}}
	told := map[string]int{}
	for nodes := 1; nodes <= 5; nodes++ {
		allTrees(nodes, labels, func(n api.Node) {
			for _, line := range linesOf([]string{"a", "b"}, 2) {
				isChecked(t, n, line, neither, next, told)
			}
		})
	}
	enough(t, told, 1000, "proof", "none")
}
