package simple_test

import (
	"slices"
	"testing"
	"time"

	"dredge/api"
	"dredge/measure"
	"dredge/simple"
	"dredge/tree"
)

// forms tells which of the five things that a simple tree has not are in a tree: how many nodes of each.
func forms(n api.Node) map[string]int {
	found := map[string]int{}
	for _, s := range spots(&n) {
		switch s.Kind {
		case api.NRep:
			kid := s.Kids[0]
			if s.Min == 1 && s.Max == 1 {
				found["one turn"]++
			}
			if s.Min == 0 && s.Max == api.Infinite && kid.Kind == api.NRep && kid.Min == 0 && kid.Max == api.Infinite {
				found["turns of turns"]++
			}
			if s.Max == 0 && groupsIn(*s) == 0 {
				found["no turn"]++
			}
		case api.NAlt:
			for i, a := range s.Kids {
				for _, b := range s.Kids[:i] {
					if a.Kind == api.NSet && b.Kind == api.NSet {
						found["sets"]++
					}
					if equal(a, b) && groupsIn(a) == 0 {
						found["twins"]++
					}
				}
			}
		}
	}
	return found
}

func groupsIn(n api.Node) int {
	groups := 0
	for _, s := range spots(&n) {
		if s.Kind == api.NGroup {
			groups++
		}
	}
	return groups
}

// simplified is what Simplify tells of a right tree, of which all is asked that P13.1 and P13.2 promise, but for what it matches.
func simplified(t *testing.T, n api.Node, mode api.Mode) api.Node {
	t.Helper()
	kept := copied(n)
	x, e := simple.Simplify(n, mode)
	if e != api.OK {
		t.Fatalf("Simplify(%s, %v): %v", short(n), mode, e)
	}
	if e := tree.Right(x, mode); e != api.OK {
		t.Errorf("Simplify(%s, %v): %s is not right: %v", short(n), mode, short(x), e)
	}
	if measure.Size(x, mode) > measure.Size(n, mode) || tree.Count(x) > tree.Count(n) {
		t.Errorf("Simplify(%s, %v): %s is larger", short(n), mode, short(x))
	}
	if groupsIn(x) != groupsIn(n) {
		t.Errorf("Simplify(%s, %v): %s has other groups", short(n), mode, short(x))
	}
	used := measure.Used(n, mode)
	if slices.ContainsFunc(measure.Used(x, mode), func(number int) bool { return !slices.Contains(used, number) }) {
		t.Errorf("Simplify(%s, %v): %s refers to other groups", short(n), mode, short(x))
	}
	if found := forms(x); len(found) > 0 {
		t.Errorf("Simplify(%s, %v): in %s there is %v", short(n), mode, short(x), found)
	}
	if y, e := simple.Simplify(x, mode); e != api.OK || !equal(x, y) {
		t.Errorf("Simplify(%s, %v): %s, and of that %s, %v", short(n), mode, short(x), short(y), e)
	}
	if !equal(n, kept) {
		t.Errorf("Simplify(%s, %v) wrote into it: %s", short(kept), mode, short(n))
	}
	return x
}

func isMade(t *testing.T, n, want api.Node, mode api.Mode) {
	t.Helper()
	if x := simplified(t, n, mode); !equal(x, want) {
		t.Errorf("Simplify(%s, %v): %s, not %s", short(n), mode, short(x), short(want))
	}
}

// TestExamples: P13.1, the chapter's examples, DOC.md's, and some beside them.
func TestExamples(t *testing.T) {
	for _, x := range []struct{ pattern, want string }{
		{`a\{1\}`, "a"},
		{"a**", "a*"},
		{`a\|b\|a`, "[ab]"},
		{`ab\{0\}`, "a"},
		{`\(a\)\{0\}`, `\(a\)\{0\}`},
		{`a\{1\}b\{0\}**`, "a"},

		{"", ""},
		{"a", "a"},
		{"^", "^"},
		{"$", "$"},
		{"^$", "^$"},
		{`\(a\|bc\)*\1\{2,3\}$`, `\(a\|bc\)*\1\{2,3\}$`},
		{`a*\{1,\}`, `a*\{1,\}`},
		{`a\{1,\}*`, `a\{1,\}*`},
		{`a\{0,1\}*`, `a\{0,1\}*`},
		{`a\{1,2\}`, `a\{1,2\}`},
		{`a\{0,1\}`, `a\{0,1\}`},

		{`\(a\)\{1\}\1\{1\}`, `\(a\)\1`},
		{`a\{1\}\{1\}\{1\}`, "a"},
		{`a*\{1\}*`, "a*"},
		{`a\{1\}*\{1\}**\{1\}`, "a*"},
		{`\(a**\)**`, `\(a*\)*`},
		{`a\{2\}\{1\}\{3\}`, `a\{2\}\{3\}`},

		{`a\{0\}`, ""},
		{`a\{0\}\{5,7\}`, ""},
		{`a\{0\}*\{0,1\}\{1\}`, ""},
		{`a*\{0\}`, ""},
		{`^a\{0\}`, "^"},
		{`a\{0\}$`, "$"},
		{`^a\{0\}$`, "^$"},
		{`a\{0\}b\{0\}`, ""},
		{`ab\{0\}cd\{0\}\{2\}e`, "ace"},
		{`\(a\{0\}\)b\1\{0\}`, `\(\)b`},
		{`\(a\)\{0\}\{0\}b\{1\}`, `\(a\)\{0\}\{0\}b`},
		{`\(a\{0\}\)\{0\}`, `\(\)\{0\}`},
		{`\(a\|b\)\{0\}\1`, `\([ab]\)\{0\}\1`},
		{`\(\(a\)\{1\}\)\{0\}\{1\}`, `\(\(a\)\)\{0\}`},

		{`a\|a`, "a"},
		{`ab\|ab`, "ab"},
		{`\|`, ""},
		{`\|a\|`, `\|a`},
		{`^\|^`, "^"},
		{`$\|^\|$`, `$\|^`},
		{`a*\|b\|a*\|c\|d*`, `a*\|[bc]\|d*`},
		{`ab\|cd\|ab\|cd\|ef\|ab`, `ab\|cd\|ef`},
		{`x*\|[b-d]\|yy\|[ea]\|m`, `x*\|[a-em]\|yy`},
		{`a\{1\}\|b`, "[ab]"},
		{`a\{1\}b\|ab\{1\}\|abc\{0\}`, "ab"},
		{`a**\|a*`, "a*"},
		{`a\{0\}\|b\{0\}`, ""},
		{`a\{0\}\|b`, `\|b`},
		{`ab\{0\}\|c`, "[ac]"},
		{`\(a\)\|\(a\)`, `\(a\)\|\(a\)`},
		{`\(a\)\|\1\|\1\|b*`, `\(a\)\|\1\|b*`},
		{`\(a\|b\)\(ab\|ab\)\(\|\)`, `\([ab]\)\(ab\)\(\)`},
		{`\(\(a\|b\)\|a\|\(b\{1\}\|a\{0\}\)\|c\)`, `\(\([ab]\)\|[ac]\|\(b\|\)\)`},
		{`\(a\|b\)\|\(a\|b\)\|\1`, `\([ab]\)\|\([ab]\)\|\1`},
	} {
		isMade(t, of(t, x.pattern, neither), of(t, x.want, neither), neither)
	}
}

// TestBounds: P13.1, of all pairs of bounds just those that the chapter names vanish.
func TestBounds(t *testing.T) {
	bounds := []int{0, 1, 2, 254, 255}
	a := char('a')
	for _, least := range bounds {
		for _, most := range append(slices.Clone(bounds), api.Infinite) {
			if most < least && most != api.Infinite {
				continue
			}
			n := rep(a, least, most)
			want := n
			if least == 1 && most == 1 {
				want = a
			}
			if most == 0 {
				want = empty()
			}
			isMade(t, n, want, neither)
			isMade(t, once(n), want, neither)
			if most == 0 {
				continue
			}
			if want.Kind == api.NSet {
				isMade(t, star(n), star(a), neither)
			} else if least == 0 && most == api.Infinite {
				isMade(t, star(n), n, neither)
			} else {
				isMade(t, star(n), star(n), neither)
				isMade(t, rep(star(a), least, most), rep(star(a), least, most), neither)
			}
			isMade(t, rep(never(a), least, most), empty(), neither)
			if least != 1 || most != 1 {
				isMade(t, rep(never(group(1, a)), least, most), rep(never(group(1, a)), least, most), neither)
			}
		}
	}
}

// TestSets: P13.1, NSets of one NAlt in each mode: one class of the mode, no larger than all of them.
func TestSets(t *testing.T) {
	other := star(char('.'))
	for _, mode := range modes() {
		isMade(t, alt(set(), set()), set(), mode)
		isMade(t, alt(set(), other, set()), alt(set(), other), mode)
		isMade(t, alt(set(), char('.')), char('.'), mode)
		isMade(t, alt(char('1'), char('3')), set('1', '1', '3', '3'), mode)
		isMade(t, alt(char('3'), other, char('1'), char('2')), alt(set('1', '3'), other), mode)
		isMade(t, alt(other, set('0', '5'), set('3', '9')), alt(other, set('0', '9')), mode)
		isMade(t, alt(set('0', '9'), set('3', '4'), end()), alt(set('0', '9'), end()), mode)
		isMade(t, alt(set(0, 127), set(128, 255)), set(0, 255), mode)
		isMade(t, alt(char(200), char(202), char(201)), set(200, 202), mode)
	}
	for _, mode := range []api.Mode{fold, both} {
		isMade(t, alt(set('A', 'A', 'a', 'a'), set('B', 'B', 'b', 'b')), set('A', 'B', 'a', 'b'), mode)
	}
	isMade(t, alt(char('A'), char('b')), set('A', 'A', 'b', 'b'), neither)
	for _, mode := range []api.Mode{chars, both} {
		isMade(t, alt(char(55295), char(57344)), set(55295, 55295, 57344, 57344), mode)
		isMade(t, alt(set(0, 55295), set(57344, 1114111)), set(0, 55295, 57344, 1114111), mode)
		isMade(t, alt(char(127), char(128)), set(127, 128), mode)
		isMade(t, alt(char(1114111), char(0), char(1114110)), set(0, 0, 1114110, 1114111), mode)
	}
}

// TestErrors: P13.1 and P2, of what is not right the error of tree.Right, and no tree.
func TestErrors(t *testing.T) {
	a := char('a')
	for _, x := range []struct {
		n    api.Node
		mode api.Mode
		want api.Errno
	}{
		{api.Node{}, neither, api.ErrTree},
		{api.Node{Kind: 10}, neither, api.ErrTree},
		{cat(), neither, api.ErrTree},
		{cat(a), neither, api.ErrTree},
		{alt(a), neither, api.ErrTree},
		{cat(a, empty()), neither, api.ErrTree},
		{rep(empty(), 0, 1), neither, api.ErrTree},
		{rep(a, 2, 1), neither, api.ErrTree},
		{rep(a, 1, 256), neither, api.ErrTree},
		{once(cat(a, a)), neither, api.ErrTree},
		{alt(a, alt(a, a)), neither, api.ErrTree},
		{once(api.Node{Kind: api.NRep, Min: 1, Max: 1}), neither, api.ErrTree},
		{api.Node{Kind: api.NRep, Min: 1, Max: 1, N: 1, Kids: []api.Node{a}}, neither, api.ErrTree},
		{never(cat(a, a)), neither, api.ErrTree},
		{never(back(1)), neither, api.ErrBack},
		{cat(never(back(1)), group(1, a)), neither, api.ErrBack},
		{alt(a, a, back(1)), neither, api.ErrBack},
		{cat(a, begin()), neither, api.ErrTree},
		{cat(never(a), begin()), neither, api.ErrTree},
		{cat(end(), never(a)), neither, api.ErrTree},
		{group(2, a), neither, api.ErrTree},
		{a, fold, api.ErrTree},
		{alt(char('A'), a), both, api.ErrTree},
		{alt(a, char(256)), neither, api.ErrTree},
		{never(char(256)), neither, api.ErrTree},
		{alt(a, set(55295, 57344)), chars, api.ErrTree},
		{alt(set('b', 'b', 'a', 'a'), a), neither, api.ErrTree},
		{alt(many(a, 2000)...), neither, api.ErrMany},
		{cat(many(never(a), 1000)...), neither, api.ErrMany},
		{around(a, 40, once), neither, api.ErrDeep},
		{around(a, 40, never), neither, api.ErrDeep},
		{endless(once(a)), neither, api.ErrDeep},
		{endless(star(a)), neither, api.ErrDeep},
		{endless(alt(a, a)), neither, api.ErrTree},
		{group(1, endless(api.Node{Kind: api.NGroup, N: 1})), neither, api.ErrTree},
		{thirtyOne(), neither, api.ErrMany},
	} {
		if n, e := simple.Simplify(x.n, x.mode); e != x.want || e != tree.Right(x.n, x.mode) || !equal(n, api.Node{}) {
			// Some of these trees have no end, and cannot be told.
			t.Errorf("Simplify of a wrong tree of the kind %d, %v: the kind %d, %v, not %v", x.n.Kind, x.mode, n.Kind, e, x.want)
		}
	}
}

// thirtyOne is a tree of so many groups.
func thirtyOne() api.Node {
	n := cat()
	for i := range 31 {
		n.Kids = append(n.Kids, group(i+1, char('a')))
	}
	return n
}

// TestSpoiltTrees: P13.1, P1 and P2, of trees of which some nodes were changed in some way.
func TestSpoiltTrees(t *testing.T) {
	next := numbers(31)
	told := map[api.Errno]int{}
	for i := range 20000 {
		mode := modes()[i%4]
		n := (&maker{next: next, mode: mode}).pattern(1)
		l := spots(&n)
		for range 1 + next(2) {
			spoil(l[next(len(l))], next)
		}
		want := tree.Right(n, mode)
		told[want]++
		if want == api.OK {
			simplified(t, n, mode)
		} else if x, e := simple.Simplify(n, mode); e != want || !equal(x, api.Node{}) {
			t.Errorf("Simplify(%s, %v): %s, %v, not %v", short(n), mode, short(x), e, want)
		}
	}
	for _, e := range []api.Errno{api.OK, api.ErrTree, api.ErrBack} {
		if told[e] < 100 {
			t.Errorf("only %d trees are %v", told[e], e)
		}
	}
}

// spoil changes something about a node.
func spoil(n *api.Node, next func(int) int) {
	switch next(8) {
	case 0:
		n.Kind = next(12) - 1
	case 1:
		n.N += next(5) - 2
	case 2:
		n.Min += next(5) - 2
	case 3:
		n.Max += next(5) - 2
	case 4:
		n.Ranges = append(n.Ranges, api.Range{Lo: next(300), Hi: next(300)})
	case 5:
		n.Kids = append(n.Kids, back(1+next(3)))
	case 6:
		n.Kids = n.Kids[:next(len(n.Kids)+1)]
	case 7:
		*n = back(1 + next(3))
	}
}

// TestLarge: P13.1, P13.2 and P1, trees as large as may be.
func TestLarge(t *testing.T) {
	a := char('a')
	isMade(t, alt(many(a, 1999)...), a, neither)
	isMade(t, alt(many(empty(), 1999)...), empty(), neither)
	isMade(t, cat(many(a, 1999)...), cat(many(a, 1999)...), neither)
	isMade(t, cat(many(never(a), 999)...), empty(), neither)
	isMade(t, cat(append(many(never(a), 999), end())...), end(), neither)
	isMade(t, alt(many(cat(a, once(a)), 499)...), cat(a, a), neither)
	isMade(t, around(a, 39, once), a, neither)
	isMade(t, around(a, 39, star), star(a), neither)
	isMade(t, around(a, 39, never), empty(), neither)
	isMade(t, around(never(a), 38, func(n api.Node) api.Node { return rep(n, 255, 255) }), empty(), neither)
	isMade(t, around(group(1, a), 38, never), around(group(1, a), 38, never), neither)
	isMade(t, around(a, 39, func(n api.Node) api.Node { return rep(n, 255, 255) }), around(a, 39, func(n api.Node) api.Node { return rep(n, 255, 255) }), neither)
	isMade(t, once(rep(once(rep(a, 255, 255)), 255, 255)), rep(rep(a, 255, 255), 255, 255), neither)
}

// TestManyKids: P13.1 and P1, many Kids no two of which are the same, and some that differ late.
func TestManyKids(t *testing.T) {
	n := alt()
	for i := range 999 {
		n.Kids = append(n.Kids, rep(char(i%250), i/250, 255))
	}
	begun := time.Now()
	isMade(t, n, n, neither)
	if took := time.Since(begun); took > 20*time.Second {
		t.Errorf("Simplify of 999 Kids took %v", took)
	}
	rows := alt()
	row := many(char('a'), 30)
	for i := range 64 {
		row[29] = char(100 + i%32)
		rows.Kids = append(rows.Kids, cat(slices.Clone(row)...))
	}
	isMade(t, rows, alt(rows.Kids[:32]...), neither)
}

// TestManyGroups: P13.1, all of thirty groups stay, wherever they stand.
func TestManyGroups(t *testing.T) {
	n, want := cat(), cat()
	for i := range 15 {
		n.Kids = append(n.Kids, never(group(2*i+1, once(group(2*i+2, alt(char('a'), char('b')))))))
		want.Kids = append(want.Kids, never(group(2*i+1, group(2*i+2, set('a', 'b')))))
	}
	n.Kids = append(n.Kids, never(back(3)), star(star(back(9))), end())
	want.Kids = append(want.Kids, star(back(9)), end())
	isMade(t, n, want, neither)
	deep := char('a')
	for i := range 30 {
		deep = group(30-i, deep)
	}
	isMade(t, deep, deep, neither)
	isMade(t, star(never(star(star(once(deep))))), star(never(star(deep))), neither)
}

// TestManyRanges: P13.1, classes of very many ranges.
func TestManyRanges(t *testing.T) {
	even, odd := set(), set()
	for c := 0; c <= 0x10ffff; c += 2 {
		if c < 0xd800 || c > 0xdfff {
			even.Ranges = append(even.Ranges, api.Range{Lo: c, Hi: c})
			odd.Ranges = append(odd.Ranges, api.Range{Lo: c + 1, Hi: c + 1})
		}
	}
	isMade(t, alt(even, star(char('x')), odd), alt(set(0, 0xd7ff, 0xe000, 0x10ffff), star(char('x'))), chars)
	isMade(t, cat(even, once(odd)), cat(even, odd), chars)
	isMade(t, alt(star(even), once(star(even))), star(even), chars)
}

// TestNewMemory: P3, no list of an answer shares memory with what was handed in, with another one, or with another answer's.
func TestNewMemory(t *testing.T) {
	twin := set('.', '.', '0', '9')
	part := star(twin)
	room := make([]api.Node, 0, 8)
	kids := append(room, twin, part, cat(twin, part, twin), once(part), never(twin), cat(twin, never(part)), group(1, alt(twin, part)))
	trees := []api.Node{
		alt(kids...), {Kind: api.NAlt, Kids: kids[:2]}, {Kind: api.NAlt, Kids: kids[:6]},
		twin, part, once(part), star(part), cat(twin, part), cat(twin, never(part), twin),
		group(1, cat(twin, twin)), star(group(1, alt(twin, twin))), alt(part, part), alt(twin, twin, part, part),
	}
	for _, n := range trees {
		for _, mode := range modes() {
			given, told := newMemory(), newMemory()
			given.note(n)
			for range 3 {
				told.note(simplified(t, n, mode))
			}
			if told.twice || told.meets(given) {
				t.Errorf("Simplify(%s, %v) shares memory", short(n), mode)
			}
		}
	}
	if !equal(room[:8][7], api.Node{}) {
		t.Error("what stands behind was written into")
	}
}
