package simple_test

import (
	"slices"
	"testing"

	"dredge/api"
	units "dredge/chars"
	"dredge/measure"
	"dredge/relate"
	"dredge/tree"
)

// looked tells whether relate takes a tree, and soon has looked at it.
func looked(n api.Node, mode api.Mode) bool {
	return tree.Right(n, mode) == api.OK && measure.Size(n, mode) <= 500 && tree.Count(n) <= 30 && len(measure.Used(n, mode)) <= api.MaxRefs
}

func placesOf(line string, mode api.Mode) []int {
	if mode.Chars {
		return units.Places(line)
	}
	l := make([]int, len(line)+1)
	for i := range l {
		l[i] = i
	}
	return l
}

// matchSame: two trees match the same parts of some lines.
func matchSame(t *testing.T, a, b api.Node, lines []string, mode api.Mode) {
	t.Helper()
	for _, line := range lines {
		for _, at := range placesOf(line, mode) {
			l, e := relate.Ends(a, line, at, mode)
			k, f := relate.Ends(b, line, at, mode)
			if e != api.OK || f != api.OK || !slices.Equal(l, k) {
				t.Errorf("%s and %s in %q at %d, %v: %v, %v and %v, %v", short(a), short(b), line, at, mode, l, e, k, f)
				return
			}
		}
	}
}

// enough: each of some things came up so many times.
func enough(t *testing.T, told map[string]int, least int, things ...string) {
	t.Helper()
	for _, what := range things {
		if told[what] < least {
			t.Errorf("only %d times: %s", told[what], what)
		}
	}
}

// note counts a tree by what was in it that is not in simple ones.
func note(told map[string]int, n, x api.Node) {
	for what := range forms(n) {
		told[what]++
	}
	if equal(n, x) {
		told["simple already"]++
	}
	if groupsIn(n) > 0 && !equal(n, x) {
		told["with groups"]++
	}
	for _, s := range spots(&x) {
		if s.Kind == api.NRep && s.Max == 0 {
			told["no turn stays"]++
		}
	}
}

// TestMany: P13.1 and P13.2, many trees, all modes; T5 in all short lines.
func TestMany(t *testing.T) {
	next := numbers(3)
	told := map[string]int{}
	for i := range 8000 {
		mk := &maker{next: next, mode: modes()[i%4]}
		n := mk.pattern(1)
		x := simplified(t, n, mk.mode)
		note(told, n, x)
		if i < 1500 && !equal(n, x) && looked(n, mk.mode) {
			matchSame(t, n, x, linesOf(alphabet(mk.mode), 3), mk.mode)
			told["matched"]++
		}
	}
	enough(t, told, 200, "one turn", "turns of turns", "no turn", "sets", "twins", "with groups", "no turn stays", "simple already", "matched")
}

// TestSmall: P13.1 and P13.2, all right trees of few nodes of some kinds; T5 in all short lines.
func TestSmall(t *testing.T) {
	told := map[string]int{}
	for nodes, l := range treesOf(6) {
		for _, n := range l {
			x := simplified(t, n, neither)
			note(told, n, x)
			if !equal(n, x) {
				matchSame(t, n, x, linesOf([]string{"a", "b"}, min(3, 7-nodes)), neither)
			}
		}
	}
	enough(t, told, 200, "one turn", "turns of turns", "no turn", "sets", "twins", "with groups", "no turn stays", "simple already")
}

// TestChosen: T5, trees whose groups are set again and again and referred to, in longer lines.
func TestChosen(t *testing.T) {
	for _, pattern := range []string{
		`\(\(a\)*\{1\}\|b\{1\}\|a\)*\2\1`,
		`\(\(a*\)b\)**\2\1`,
		`\(\(a\{0,1\}\)\{1\}\)\{2\}b\1\2`,
		`\(\(a\)\|b\)**\2**\1\{1\}`,
		`\(a*\)**\{1\}\1`,
		`\(a*\)\{0\}\{1\}b\|\1`,
		`\(\(a\)\{0\}b\|a\{1\}\|a\)*\(\2\|b\|a\)`,
		`\(\(\(a*\)**\)**\)**\1\3`,
		`\(a\{0\}\)\{2\}\1**b\{0\}$`,
		`^\(a\|\(b\)\|a\|b\)**\(\2\|\2\|a\)*$`,
		`\(\|a\|\)\(\|b\|\1\{0\}\)\{2\}\1\2`,
		`\(a\|b\|ab\)*\1\{1\}$`,
	} {
		n := of(t, pattern, neither)
		x := simplified(t, n, neither)
		if equal(n, x) {
			t.Errorf("%s: nothing is simpler", pattern)
		}
		matchSame(t, n, x, linesOf([]string{"a", "b"}, 6), neither)
	}
}

// TestTakenAway: P13.3, a tree with something put in that Simplify takes away matches the same, and so does what Simplify makes of it.
func TestTakenAway(t *testing.T) {
	next := numbers(17)
	told := map[string]int{}
	for i := range 4000 {
		mk := &maker{next: next, mode: modes()[i%4]}
		n := mk.pattern(1)
		more := copied(n)
		l := spots(&more)
		what := putIn(l[next(len(l))], next)
		if what == "" || !looked(more, mk.mode) {
			continue
		}
		told[what]++
		lines := linesOf(alphabet(mk.mode), 2)
		matchSame(t, n, more, lines, mk.mode)
		matchSame(t, n, simplified(t, more, mk.mode), lines, mk.mode)
	}
	enough(t, told, 100, "one turn", "turns of turns", "twins")
}

// putIn puts something into a tree at a node, and tells what it is, if there is anything.
func putIn(n *api.Node, next func(int) int) string {
	switch n.Kind {
	case api.NAlt:
		twin := copied(n.Kids[next(len(n.Kids))])
		if groupsIn(twin) > 0 {
			return ""
		}
		n.Kids = slices.Insert(n.Kids, next(len(n.Kids)+1), twin)
		return "twins"
	case api.NRep:
		if n.Min == 0 && n.Max == api.Infinite {
			*n = star(*n)
			return "turns of turns"
		}
		fallthrough
	case api.NSet, api.NGroup, api.NBack:
		*n = once(*n)
		return "one turn"
	}
	return ""
}
