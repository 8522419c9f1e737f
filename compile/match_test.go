package compile_test

import (
	"slices"
	"testing"

	"dredge/api"
	"dredge/code"
	"dredge/measure"
	"dredge/relate"
	"dredge/tree"
)

// programOf is a right tree's program, which must be as the call's promise says, but for what it matches.
func programOf(t *testing.T, c compiler, n api.Node, mode api.Mode) api.Program {
	t.Helper()
	p, e := c.of(n, mode)
	if e != api.OK {
		t.Fatalf("%s of %s, %v: %v", c.name, short(n), mode, e)
	}
	if e, at := code.Right(p); e != api.OK {
		t.Fatalf("%s of %s, %v: %v at %d of %s", c.name, short(n), mode, e, at, short(p))
	}
	if size := measure.Size(n, mode); len(p.Insts) > 3*size+8 {
		t.Fatalf("%s of %s, %v: %d instructions, the size is %d", c.name, short(n), mode, len(p.Insts), size)
	}
	if p.Fold != mode.Fold || p.Groups > len(measure.Used(n, mode)) {
		t.Fatalf("%s of %s, %v: %d groups, fold %v", c.name, short(n), mode, p.Groups, p.Fold)
	}
	if c.name != "Counted" && !bare(p) {
		t.Fatalf("%s of %s, %v: groups, counters or what asks them: %s", c.name, short(n), mode, short(p))
	}
	return p
}

// bare tells whether a program is free and knows neither groups nor counters.
func bare(p api.Program) bool {
	opens := slices.ContainsFunc(p.Insts, func(in api.Inst) bool { return in.Op == api.OpOpen || in.Op == api.OpClose })
	return code.Free(p) && p.Groups == 0 && p.Counters == 0 && !opens
}

// textOf is a program's text.
func textOf(p api.Program) string {
	s, _ := code.Text(p)
	return short(s)
}

// parts is which parts of a line match, by their beginnings and ends.
type parts [][]bool

// partsOf is the parts between places of a line, as a call tells the ends of each beginning.
func partsOf(line string, mode api.Mode, ends func(at int) []int) parts {
	l := make(parts, len(line)+1)
	for _, at := range placesOf(line, mode) {
		l[at] = make([]bool, len(line)+1)
		for _, end := range ends(at) {
			l[at][end] = true
		}
	}
	return l
}

// matchAlike: the programs of a tree match the parts of some lines that the tree matches.
func matchAlike(t *testing.T, n api.Node, lines []string, mode api.Mode) {
	t.Helper()
	counted := programOf(t, compilers()[1], n, mode)
	programs := []api.Program{counted}
	free := len(measure.Used(n, mode)) == 0
	var turned api.Program
	if free {
		programs = append(programs, programOf(t, compilers()[0], n, mode))
		turned = programOf(t, compilers()[2], n, mode)
	}
	for _, line := range lines {
		want := partsOf(line, mode, func(at int) []int { return endsOf(t, n, line, at, mode) })
		for _, p := range programs {
			if got := partsOf(line, mode, func(at int) []int { return played(p, line, at) }); !same(got, want) {
				t.Fatalf("%s, %v, in %q: %v, not %v, by %s", short(n), mode, line, got, want, textOf(p))
			}
		}
		if got := fromBehind(turned, line, mode); free && !same(got, want) {
			t.Fatalf("%s, %v, in %q turned round: %v, not %v, by %s", short(n), mode, line, got, want, textOf(turned))
		}
	}
}

func endsOf(t *testing.T, n api.Node, line string, at int, mode api.Mode) []int {
	t.Helper()
	l, e := relate.Ends(n, line, at, mode)
	if e != api.OK {
		t.Fatalf("Ends of %s in %q at %d, %v: %v", short(n), line, at, mode, e)
	}
	return l
}

func same(a, b parts) bool {
	return slices.EqualFunc(a, b, slices.Equal[[]bool])
}

// fromBehind is the parts between places of a line that a program matches in the line turned round.
func fromBehind(p api.Program, line string, mode api.Mode) parts {
	if len(p.Insts) == 0 {
		return nil
	}
	around := reversed(line)
	places := placesOf(line, mode)
	l := make(parts, len(line)+1)
	for _, at := range places {
		l[at] = make([]bool, len(line)+1)
	}
	for _, end := range places {
		for _, k := range played(p, around, len(line)-end) {
			if slices.Contains(places, len(line)-k) {
				l[len(line)-k][end] = true
			}
		}
	}
	return l
}

// looked tells whether relate takes a tree, and soon has looked at it.
func looked(n api.Node, mode api.Mode) bool {
	return tree.Right(n, mode) == api.OK && measure.Size(n, mode) <= 1500 && tree.Count(n) <= 30 && len(measure.Used(n, mode)) <= api.MaxRefs
}

// enough: each of some things came up so many times.
func enough(t *testing.T, told map[string]int, least int, things ...string) {
	t.Helper()
	for _, what := range things {
		if told[what] < least {
			t.Errorf("only %d times: %s", told[what], what)
		}
	}
}

// note counts a tree by what is in it.
func note(told map[string]int, n api.Node) {
	told["all"]++
	if used := usedIn(n); len(used) > 0 {
		told["with references"]++
		if len(used) > 1 {
			told["to two groups"]++
		}
	} else {
		told["without references"]++
	}
	names := map[int]string{api.NSet: "set", api.NBegin: "begin", api.NEnd: "end", api.NCat: "cat", api.NAlt: "alt", api.NGroup: "group", api.NBack: "back", api.NRep: "rep"}
	for _, node := range tree.All(n) {
		told[names[node.Kind]]++
	}
}

func usedIn(n api.Node) map[int]bool {
	used := map[int]bool{}
	for _, node := range tree.All(n) {
		if node.Kind == api.NBack {
			used[node.N] = true
		}
	}
	return used
}

// TestSmall: P15.1 to P15.3, all right trees of few nodes of some kinds, in all short lines.
func TestSmall(t *testing.T) {
	told := map[string]int{}
	for nodes, l := range treesOf(6) {
		lines := linesOf([]string{"a", "b"}, min(3, 7-nodes))
		for i, n := range l {
			// Those of six nodes are too many: every fourth stands for its neighbours.
			if nodes == 6 && i%4 != 0 {
				continue
			}
			note(told, n)
			matchAlike(t, n, lines, neither)
		}
	}
	enough(t, told, 200, "with references", "without references", "set", "begin", "end", "cat", "alt", "group", "back", "rep")
}

// TestMany: P15.1 to P15.3, many trees, all modes, in all short lines.
func TestMany(t *testing.T) {
	next := numbers(11)
	told := map[string]int{}
	for i := range 4000 {
		mk := &maker{next: next, mode: modes()[i%4], refs: i%8 < 6}
		n := mk.pattern(1)
		if !looked(n, mk.mode) {
			continue
		}
		note(told, n)
		matchAlike(t, n, linesOf(alphabet(mk.mode), 2+i%32/31), mk.mode)
	}
	enough(t, told, 100, "to two groups")
	enough(t, told, 300, "with references", "without references", "begin", "end", "back")
	enough(t, told, 1500, "all", "set", "cat", "alt", "group", "rep")
}

// TestChosen: P15.1 to P15.3, turns with and without bytes, and groups that are set again and again, in longer lines.
func TestChosen(t *testing.T) {
	for _, pattern := range []string{
		`a*`, `\(a*\)*`, `\(\(a*\)*\)*`, `\(a*\)\{2,3\}`, `\(a\{0,1\}\)\{3\}`, `\(a\|b*\)\{2,\}`,
		`\(a\{2,3\}\)\{2,3\}`, `\(\(ab\)\{1,2\}\|a\{3\}\)*b\{0,2\}`, `\(^a\|b$\|\)*`, `\(^\)*a\{2\}\($\)\{2\}`,
		`\(a\|ab\)\(c\|bcd\)`, `\(^\|a\)\{2\}b\($\|a\)*`, `a\{0\}b\(a\)\{0,0\}`,
		`\(a*\)\1`, `\(a*\)*\1`, `\(a*\)\{2,3\}\1`, `\(a*\)\{0,1\}b\1`, `\(a\{0,1\}\)\{2\}b\1`, `\(a*\)\+b\1`,
		`\(\(a\)\|b\)*\2`, `\(\(a*\)b\)*\2\1`, `\(\(a\)\{0\}b\|a\)*\(\2\|b\|a\)`, `\(\(\(a*\)*\)*\)*\1\3`,
		`\(a\|b\|ab\)*\1`, `\(a*\)\(b\1\)*\2`, `\(a*\)\(\1\)*\2`, `\(a\)\{0\}\1*b`, `\(a\)\{0\}\(\1\|b\)*`,
		`\(\(a*\)\{2,3\}b*\)\{2,3\}\1\2`, `\(\(a\{1,2\}\)b*\)\{1,2\}\2`, `\(\(a*\)\2b*\)*\1`, `\(a*\|b\)\{1,2\}\(\1\{2\}\|b\)*`,
		`\(\(^a\)*b\|$\)*\2`, `\(\|a\|b*\)\(\|b\|\1\{0\}\)\{2\}\1\2`, `\(a\)*\(\1b\)*\1*\2\{0,1\}`,
	} {
		matchAlike(t, of(t, pattern, neither), linesOf([]string{"a", "b"}, 6), neither)
	}
}
