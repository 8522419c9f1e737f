package compare_test

import (
	"slices"
	"testing"

	"dredge/api"
	"dredge/compare"
	"dredge/measure"
	"dredge/tree"
)

// dashes is a tree of a line of so many dashes (1785 to 2040), written out.
func dashes(count int) api.Node {
	return cat(rep(rep(char('-'), 255, 255), 7, 7), rep(char('-'), count-1785, count-1785))
}

// tooMany is a tree of more than MaxStates sets; large of more than MaxSize; referring has a backreference.
func tooMany() api.Node   { return dashes(1999) }
func large() api.Node     { return rep(rep(char('-'), 255, 255), 255, 255) }
func referring() api.Node { return cat(group(1, char('-')), back(1)) }

// endless is a tree that is its own Kid.
func endless(n api.Node) api.Node {
	for i := range n.Kids {
		n.Kids[i] = n
	}
	return n
}

// wrong is a tree that no call takes, in no mode, and the error.
type wrong struct {
	n    api.Node
	want api.Errno
}

func wrongTrees() []wrong {
	return []wrong{
		{api.Node{}, api.ErrTree},
		{api.Node{Kind: api.NRep + 1}, api.ErrTree},
		{api.Node{Kind: -1}, api.ErrTree},
		{api.Node{Kind: api.NSet, N: 1}, api.ErrTree},
		{set('c', 'b'), api.ErrTree},
		{set(-1, -1), api.ErrTree},
		{set(api.MaxRune+1, api.MaxRune+1), api.ErrTree},
		{set(0xd800, 0xd800), api.ErrTree},
		{cat(char('-')), api.ErrTree},
		{cat(char('-'), begin()), api.ErrTree},
		{cat(end(), char('-')), api.ErrTree},
		{alt(char('-'), alt(empty(), empty())), api.ErrTree},
		{rep(char('-'), 2, 1), api.ErrTree},
		{rep(char('-'), 0, 256), api.ErrTree},
		{rep(empty(), 0, 1), api.ErrTree},
		{group(2, empty()), api.ErrTree},
		{cat(large(), group(2, empty())), api.ErrTree},
		{cat(group(1, char('-')), back(1), group(3, empty())), api.ErrTree},
		{back(1), api.ErrBack},
		{group(1, back(1)), api.ErrBack},
		{cat(large(), back(1)), api.ErrBack},
		{cat(slices.Repeat([]api.Node{char('-')}, 2000)...), api.ErrMany},
		{endless(cat(char('-'), char('-'))), api.ErrTree},
		{endless(star(char('-'))), api.ErrDeep},
		{referring(), api.ErrRefs},
		{cat(rep(group(1, char('-')), 0, 0), back(1)), api.ErrRefs},
		{cat(group(1, char('-')), rep(back(1), 0, 0)), api.ErrRefs},
		{cat(group(1, empty()), group(2, alt(char('-'), back(1)))), api.ErrRefs},
		{cat(large(), group(1, char('-')), back(1)), api.ErrRefs},
		{cat(rep(rep(char('-'), 255, 255), 8, 8), group(1, char('-')), back(1)), api.ErrRefs},
		{large(), api.ErrSize},
		{alt(char('-'), large()), api.ErrSize},
		{cat(rep(large(), 0, 0), char('-')), api.ErrSize},
		{tooMany(), api.ErrMany},
		{rep(rep(char('-'), 255, 255), 8, 8), api.ErrMany},
		{alt(char('-'), rep(rep(char('-'), 255, 255), 8, 8)), api.ErrMany},
	}
}

// TestWrongAlone: P22.1, of one tree: the errors, in their order.
func TestWrongAlone(t *testing.T) {
	for _, w := range wrongTrees() {
		for _, mode := range modes() {
			refusedAlone(t, w.n, mode, w.want)
		}
	}
}

// TestWrongTwo: P22.1, of two trees: all that is wrong with the first one is told ahead of what is wrong with the second one, whatever it is.
func TestWrongTwo(t *testing.T) {
	for i, w := range wrongTrees() {
		mode := modes()[i%4]
		for _, right := range []api.Node{empty(), set(), char('-'), star(char('-')), dashes(1998)} {
			refused(t, w.n, right, mode, w.want)
			refused(t, right, w.n, mode, w.want)
		}
		for _, other := range wrongTrees() {
			refused(t, w.n, other.n, mode, w.want)
		}
	}
}

// TestTreesOfModes: P22.1, trees that are right in some modes alone.
func TestTreesOfModes(t *testing.T) {
	for mode, right := range map[api.Mode][]bool{
		neither: {true, true, false, false, true}, chars: {true, true, true, true, true}, fold: {false, true, false, false, true}, both: {false, true, true, true, true},
	} {
		for i, n := range []api.Node{char('a'), set('A', 'A', 'a', 'a'), char(256), set(200, 0xd7ff), char('-')} {
			if right[i] {
				taken(t, n, mode)
				continue
			}
			refusedAlone(t, n, mode, api.ErrTree)
			refused(t, n, char('-'), mode, api.ErrTree)
			refused(t, char('-'), n, mode, api.ErrTree)
		}
	}
}

// TestGroupsAndNest: P22.1, as many groups and nodes within one another as may be, and one more.
func TestGroupsAndNest(t *testing.T) {
	row, deep := cat(), char('-')
	for number := 1; number <= api.MaxGroups; number++ {
		row.Kids = append(row.Kids, group(number, char('-')))
	}
	for range api.MaxNest - 1 {
		deep = rep(deep, 1, 1)
	}
	taken(t, row, neither)
	taken(t, deep, neither)
	row.Kids = append(row.Kids, group(api.MaxGroups+1, char('-')))
	refusedAlone(t, row, neither, api.ErrMany)
	refusedAlone(t, rep(deep, 1, 1), neither, api.ErrDeep)
	taken(t, alt(slices.Repeat([]api.Node{char('-')}, api.MaxNodes-1)...), neither)
	refusedAlone(t, alt(slices.Repeat([]api.Node{char('-')}, api.MaxNodes)...), neither, api.ErrMany)
}

// sized is a tree that has the size 9994, and that of one of its Kids.
func sized(kid api.Node) api.Node {
	n := cat()
	for number := 1; number <= 5; number++ {
		n.Kids = append(n.Kids, rep(group(number, star(char('-'))), 255, 255))
	}
	n.Kids = append(n.Kids, kid)
	for range 266 {
		n.Kids = append(n.Kids, star(char('-')))
	}
	return n
}

// TestSize: P22.1, as large as may be, written out, and one more.
func TestSize(t *testing.T) {
	n, large := sized(group(6, star(char('-')))), sized(group(6, alt(empty(), empty())))
	for _, mode := range modes() {
		if size, more := measure.Size(n, mode), measure.Size(large, mode); size != api.MaxSize || more != api.MaxSize+1 {
			t.Fatalf("the trees' sizes: %d, %d", size, more)
		}
		taken(t, n, mode)
		states(t, n, mode, 2)
		same(t, n, star(char('-')), mode)
		refusedAlone(t, large, mode, api.ErrSize)
		refused(t, n, large, mode, api.ErrSize)
	}
	wide := rep(set(0x80, 0xd7ff, 0xe000, api.MaxRune), 255, 255) // with Chars 34 a turn
	taken(t, cat(wide, rep(set(0x80, 0xd7ff, 0xe000, api.MaxRune), 30, 30)), chars)
	refusedAlone(t, cat(wide, wide), chars, api.ErrSize)
}

// manySets is trees of a number of dashes, each with the greatest number of which it has no more than MaxStates sets.
func manySets(mode api.Mode) map[int][]func(count int) api.Node {
	row := func(count int, more ...api.Node) api.Node { return cat(append(dashes(count).Kids, more...)...) }
	return map[int][]func(count int) api.Node{
		1998: {
			dashes, // the empty line's set, one a dash, and that without positions
			func(count int) api.Node { return cat(begin(), dashes(count - 2).Kids[0], dashes(count).Kids[1], end()) },
			func(count int) api.Node { return alt(dashes(count), empty(), set()) },
			func(count int) api.Node { return alt(dashes(count), star(all(mode))) }, // no line has the one without positions
			func(count int) api.Node { return row(count-2, rep(char('-'), 0, 2)) },
			func(count int) api.Node { return row(count, rep(char('-'), 0, 0)) },
			func(count int) api.Node { return row(count, set()) }, // a match need not go on to its end
			func(count int) api.Node { return row(count, group(1, end()), char('-')) },
		},
		1997: {
			func(count int) api.Node { return row(count, star(all(mode))) },
			func(count int) api.Node { return row(count, star(char('-'))) },
			func(count int) api.Node { return row(count-2, rep(char('-'), 2, api.Infinite)) },
			func(count int) api.Node { return alt(dashes(count), char('+')) },
		},
		1996: {
			func(count int) api.Node { return alt(dashes(count), cat(char('+'), char('-'))) },
			func(count int) api.Node { return row(count, rep(char('+'), 0, 2)) },
		},
	}
}

// TestManySets: P22.1, as many sets as may be, and one more.
func TestManySets(t *testing.T) {
	t.Parallel()
	for _, mode := range []api.Mode{neither, both} {
		for most, trees := range manySets(mode) {
			for _, n := range trees {
				taken(t, n(most), mode)
				refusedAlone(t, n(most+1), mode, api.ErrMany)
				refused(t, n(most), n(most+1), mode, api.ErrMany)
				refused(t, n(most+1), n(most), mode, api.ErrMany)
			}
		}
	}
	dots := `.\{255\}\{7\}.\{213\}.*` // all lines that are as long have one set
	taken(t, of(t, dots, neither), neither)
	refusedAlone(t, of(t, "."+dots, neither), neither, api.ErrMany)
}

// padded is a tree that has so many sets more: a line of a letter that the tree does not read.
func padded(n api.Node, mode api.Mode, sets int) api.Node {
	letter := char('z')
	if mode.Fold {
		letter = set('Z', 'Z', 'z', 'z')
	}
	more := cat(rep(rep(letter, 255, 255), 7, 7), rep(letter, sets-1785, sets-1785))
	if n.Kind == api.NAlt {
		return alt(append(slices.Clone(n.Kids), more)...)
	}
	return alt(n, more)
}

// TestSetsOfMadeTrees: P22.1, how many sets made trees have, by how many more there may be; against the sets that the chapter tells of.
func TestSetsOfMadeTrees(t *testing.T) {
	t.Parallel()
	found := map[string]int{}
	for i, mode := range modes() {
		classes := pool(mode)
		for _, n := range made(uint32(7+i), classes[:len(classes)-1], 50) {
			s, is := setsOf(n, mode, letters(mode), 60)
			if !is {
				continue
			}
			more := api.MaxStates - len(s.lines)
			if e := errorOf(padded(n, mode, more), mode); e != api.OK {
				t.Fatalf("of %s, %v, which has %d sets, and %d more: %v", brief(n), mode, len(s.lines), more, e)
			}
			if e := errorOf(padded(n, mode, more+1), mode); e != api.ErrMany {
				t.Fatalf("of %s, %v, which has %d sets, and %d more: %v", brief(n), mode, len(s.lines), more+1, e)
			}
			found[map[bool]string{true: "few", false: "many"}[len(s.lines) < 6]]++
		}
	}
	enough(t, found, 30, "few", "many")
}

func errorOf(n api.Node, mode api.Mode) api.Errno {
	_, e := compare.States(n, mode)
	return e
}

// TestSpoiltTrees: P22.1, trees with a wrong number in them.
func TestSpoiltTrees(t *testing.T) {
	next := numbers(5)
	told := map[api.Errno]int{}
	for i := range 2000 {
		mode := modes()[i%4]
		n := made(uint32(i), pool(mode), 1)[0]
		l := spots(&n)
		s, by := l[next(len(l))], []int{-1, 1, -300, 300}[next(4)]
		field := []*int{&s.Kind, &s.N, &s.Min, &s.Max}[next(4)]
		*field += by
		want := tree.Right(n, mode)
		if want == api.OK && len(measure.Used(n, mode)) > 0 {
			want = api.ErrRefs
		}
		told[want]++
		if want == api.OK {
			taken(t, n, mode)
			continue
		}
		refusedAlone(t, n, mode, want)
		refused(t, n, char('-'), mode, want)
		refused(t, char('-'), n, mode, want)
	}
	if told[api.OK] < 10 || told[api.ErrTree] < 500 {
		t.Errorf("%v", told)
	}
}
