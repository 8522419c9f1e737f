package tree_test

import (
	"math"
	"testing"

	"dredge/api"
	"dredge/tree"
)

func isRight(t *testing.T, n api.Node, mode api.Mode, want api.Errno) {
	t.Helper()
	if got := tree.Right(n, mode); got != want {
		if tree.Count(n) > 50 {
			n.Kids = nil
		}
		t.Errorf("Right(%v, %v): %v, not %v", n, mode, got, want)
	}
}

func inAllModes(t *testing.T, n api.Node, want api.Errno) {
	t.Helper()
	for _, mode := range modes() {
		isRight(t, n, mode, want)
	}
}

// anyKind is a node of each kind that is right by itself, in all modes: as the first group of its tree, or behind it.
func anyKind(kind int) api.Node {
	dot := char('.')
	switch kind {
	case api.NSet:
		return dot
	case api.NCat, api.NAlt:
		return with(kind, dot, dot)
	case api.NGroup:
		return group(2, dot)
	case api.NBack:
		return back(1)
	case api.NRep:
		return rep(dot, 0, 1)
	}
	return api.Node{Kind: kind}
}

// TestRightExamples: P8.1, the chapter's examples.
func TestRightExamples(t *testing.T) {
	a := char('a')
	isRight(t, a, neither, api.OK)
	isRight(t, a, fold, api.ErrTree)
	isRight(t, cat(a), neither, api.ErrTree)
	isRight(t, rep(begin(), 0, 1), neither, api.ErrTree)
	isRight(t, group(2, empty()), neither, api.ErrTree)
	isRight(t, cat(back(1), group(1, empty())), neither, api.ErrBack)
	isRight(t, cat(group(1, empty()), back(1)), neither, api.OK)
	isRight(t, group(1, back(1)), neither, api.ErrBack)
	isRight(t, cat(a, begin()), neither, api.ErrTree)
}

// TestWhereKindsStand: P8.1, each kind, and what is none, at each place: a letter for each kind from NEmpty on that may stand there.
func TestWhereKindsStand(t *testing.T) {
	one := group(1, char('.'))
	places := []struct {
		name, may string
		tree      func(api.Node) api.Node
	}{
		{"an NGroup's Kid", "ESBZCAGKR", func(n api.Node) api.Node { return alt(one, group(2, n)) }},
		{"an NAlt's second Kid", "ESBZC-GKR", func(n api.Node) api.Node { return alt(one, n, one.Kids[0]) }},
		{"an NAlt's last Kid", "ESBZC-GKR", func(n api.Node) api.Node { return alt(one, n) }},
		{"an NCat's second Kid", "-S----GKR", func(n api.Node) api.Node { return cat(one, n, one.Kids[0]) }},
		{"an NCat's last Kid", "-S-Z--GKR", func(n api.Node) api.Node { return cat(one, n) }},
		{"an NRep's Kid", "-S----GKR", func(n api.Node) api.Node { return cat(one, rep(n, 0, 1)) }},
		{"the last Kid of an NAlt's NCat", "-S-Z--GKR", func(n api.Node) api.Node { return alt(one, cat(one.Kids[0], n)) }},
		{"the first Kid of an NAlt's NCat", "-SB---GKR", func(n api.Node) api.Node { return alt(one, cat(n, one.Kids[0])) }},
		{"the first Kid of an NGroup's NCat", "-SB---GKR", func(n api.Node) api.Node { return alt(one, group(2, cat(n, one.Kids[0]))) }},
	}
	for _, p := range places {
		for kind := -2; kind <= 12; kind++ {
			may := kind >= 1 && kind <= 9 && p.may[kind-1] != '-'
			n := anyKind(kind)
			if p.tree(empty()).Kids[1].Kind == api.NGroup && kind == api.NGroup {
				n.N = 3
			}
			want := api.ErrTree
			if may {
				want = api.OK
			}
			if got := tree.Right(p.tree(n), neither); got != want {
				t.Errorf("the kind %d as %s: %v", kind, p.name, got)
			}
		}
	}
	for _, kind := range []int{math.MinInt, math.MaxInt, 256 + api.NSet, 1<<32 + api.NSet} {
		isRight(t, api.Node{Kind: kind}, neither, api.ErrTree)
	}
}

// TestTheTreesOwnNode: P8.1, every kind may be it; what is no kind may not.
func TestTheTreesOwnNode(t *testing.T) {
	for kind := -2; kind <= 12; kind++ {
		n := anyKind(kind)
		want := api.OK
		switch kind {
		case api.NGroup:
			n.N = 1
		case api.NBack:
			want = api.ErrBack
		case -2, -1, 0, 10, 11, 12:
			want = api.ErrTree
		}
		inAllModes(t, n, want)
	}
}

// TestAnchors: P8.1, where an NBegin and an NEnd may stand.
func TestAnchors(t *testing.T) {
	dot := char('.')
	for _, x := range []struct {
		n    api.Node
		want api.Errno
	}{
		{cat(begin(), end()), api.OK},
		{cat(begin(), dot, end()), api.OK},
		{cat(end(), begin()), api.ErrTree},
		{cat(begin(), begin()), api.ErrTree},
		{cat(end(), end()), api.ErrTree},
		{cat(begin(), begin(), dot), api.ErrTree},
		{cat(dot, end(), end()), api.ErrTree},
		{cat(end(), dot), api.ErrTree},
		{cat(dot, begin()), api.ErrTree},
		{cat(dot, begin(), dot), api.ErrTree},
		{cat(dot, end(), dot), api.ErrTree},
		{alt(begin(), end(), begin(), empty()), api.OK},
		{alt(cat(begin(), end()), cat(begin(), dot, end())), api.OK},
		{group(1, begin()), api.OK},
		{group(1, alt(end(), cat(begin(), dot))), api.OK},
		{cat(dot, group(1, begin()), group(2, end()), dot), api.OK},
		{rep(group(1, cat(begin(), dot)), 0, 1), api.OK},
		{rep(end(), 0, 1), api.ErrTree},
	} {
		inAllModes(t, x.n, x.want)
	}
}

// TestFieldsOfNoKind: P8.1, fields that the table does not name are 0 and empty.
func TestFieldsOfNoKind(t *testing.T) {
	for kind := api.NEmpty; kind <= api.NRep; kind++ {
		n := anyKind(kind)
		if kind == api.NGroup {
			n.N = 2
		}
		around := func(n api.Node) api.Node { return alt(group(1, empty()), group(2, n)) }
		if kind == api.NGroup {
			around = func(n api.Node) api.Node { return alt(group(1, empty()), n) }
		}
		isRight(t, around(n), neither, api.OK)
		for _, v := range []int{1, -1, 255, math.MinInt, math.MaxInt} {
			spoilt := n
			spoilt.N = v
			if kind != api.NBack && kind != api.NGroup {
				isRight(t, around(spoilt), neither, api.ErrTree)
			}
			spoilt = n
			spoilt.Min = v
			if kind != api.NRep {
				isRight(t, around(spoilt), neither, api.ErrTree)
			}
			spoilt = n
			spoilt.Max = v
			if kind != api.NRep {
				isRight(t, around(spoilt), neither, api.ErrTree)
			}
		}
		spoilt := n
		spoilt.Ranges = []api.Range{{Lo: 'a', Hi: 'a'}}
		if kind != api.NSet {
			isRight(t, around(spoilt), neither, api.ErrTree)
		}
		spoilt = n
		spoilt.Ranges = append([]api.Range{}, n.Ranges...)
		spoilt.Kids = append([]api.Node{}, n.Kids...)
		isRight(t, around(spoilt), neither, api.OK)
	}
}

// TestKids: P8.1, how many Kids each kind may have.
func TestKids(t *testing.T) {
	for kind := api.NEmpty; kind <= api.NRep; kind++ {
		for kids := range 5 {
			n := anyKind(kind)
			n.Kids = nil
			for range kids {
				n.Kids = append(n.Kids, char('.'))
			}
			right := kids == 0
			switch kind {
			case api.NCat, api.NAlt:
				right = kids >= 2
			case api.NGroup, api.NRep:
				right = kids == 1
			}
			want := api.ErrTree
			if right {
				want = api.OK
			}
			around := alt(group(1, empty()), n)
			if kind == api.NAlt {
				around = alt(group(1, empty()), group(2, n))
			}
			inAllModes(t, around, want)
		}
	}
}

// TestSets: P8.1, classes of the mode, with Fold those that have both cases of each letter.
func TestSets(t *testing.T) {
	for _, x := range []struct {
		n    api.Node
		want string // the modes in which it is right: neither, chars, fold, both
	}{
		{set(), "ncfb"},
		{set(0, 0), "ncfb"},
		{set(0, 255), "ncfb"},
		{set(0, 256), "cb"},
		{set(256, 256), "cb"},
		{set(255, 255), "ncfb"},
		{set(-1, 5), ""},
		{set(-5, -1), ""},
		{set(math.MinInt, math.MaxInt), ""},
		{set(0, 55295, 57344, 1114111), "cb"},
		{set(0, 1114111), ""},
		{set(55295, 55296), ""},
		{set(55295, 55295), "cb"},
		{set(55296, 57343), ""},
		{set(57343, 57344), ""},
		{set(57344, 57344), "cb"},
		{set(1114111, 1114111), "cb"},
		{set(1114111, 1114112), ""},
		{set(1, 2, 3, 4), ""},
		{set(1, 2, 4, 5), "ncfb"},
		{set(4, 5, 1, 2), ""},
		{set(1, 5, 3, 7), ""},
		{set(1, 1, 1, 1), ""},
		{set(2, 1), ""},
		{set(1, 1, 5, 4), ""},
		{set('a', 'a'), "nc"},
		{set('A', 'A'), "nc"},
		{set('A', 'A', 'a', 'a'), "ncfb"},
		{set('A', 'A', 'b', 'b'), "nc"},
		{set('Z', 'Z', 'z', 'z'), "ncfb"},
		{set('Z', 'Z'), "nc"},
		{set('z', 'z'), "nc"},
		{set('@', '@'), "ncfb"},
		{set('[', '`'), "ncfb"},
		{set('{', '{'), "ncfb"},
		{set('@', 'Z', 'a', 'z'), "ncfb"},
		{set('A', 'z'), "ncfb"},
		{set('A', 'y'), "nc"},
		{set('B', 'z'), "nc"},
		{set(0xc0, 0xc0), "ncfb"},
		{set(0xe9, 0xe9), "ncfb"},
		{set(0x212a, 0x212a), "cb"},
		{set('K', 'K', 'k', 'k'), "ncfb"},
	} {
		for i, mode := range modes() {
			want := api.ErrTree
			for _, m := range x.want {
				if byte(m) == "ncfb"[i] {
					want = api.OK
				}
			}
			isRight(t, x.n, mode, want)
			isRight(t, cat(char('.'), rep(x.n, 0, 1)), mode, want)
		}
	}
}

// TestLetters: P8.1, with Fold each letter is asked for by itself.
func TestLetters(t *testing.T) {
	for c := range 256 {
		letter := 'A' <= c&^32 && c&^32 <= 'Z' && c < 128
		want := api.OK
		if letter {
			want = api.ErrTree
		}
		isRight(t, char(c), fold, want)
		isRight(t, char(c), both, want)
		if letter {
			isRight(t, set(c&^32, c&^32, c|32, c|32), fold, api.OK)
			isRight(t, set(c&^32, c&^32, c|32, c|32), both, api.OK)
		}
	}
}

// TestBounds: P8.1, which Min and Max an NRep may have.
func TestBounds(t *testing.T) {
	for _, least := range edges() {
		for _, most := range edges() {
			want := api.ErrTree
			if boundsMayBe(least, most) {
				want = api.OK
			}
			inAllModes(t, rep(char('.'), least, most), want)
		}
	}
	n := rep(char('.'), 0, 1)
	n.N = 1
	inAllModes(t, n, api.ErrTree)
}

// edges is numbers about which an NRep's bounds change.
func edges() []int {
	return []int{math.MinInt, math.MinInt32, -256, -3, -2, -1, 0, 1, 2, 3, 9, 10, 253, 254, 255, 256, 257, math.MaxInt32, 1 << 32, 1<<32 + 1, math.MaxInt}
}

// boundsMayBe: the table's words.
func boundsMayBe(least, most int) bool {
	if least < 0 || least > 255 {
		return false
	}
	if most == api.Infinite {
		return true
	}
	return !(most < least) && most <= 255
}

// TestGroupNumbers: P8.1, a group's number is one more than how many begin ahead of it.
func TestGroupNumbers(t *testing.T) {
	dot := char('.')
	for _, x := range []struct {
		n    api.Node
		want api.Errno
	}{
		{group(1, dot), api.OK},
		{group(0, dot), api.ErrTree},
		{group(-1, dot), api.ErrTree},
		{group(2, dot), api.ErrTree},
		{group(31, dot), api.ErrTree},
		{group(math.MinInt, dot), api.ErrTree},
		{group(math.MaxInt, dot), api.ErrTree},
		{group(1<<32+1, dot), api.ErrTree},
		{group(1, group(2, group(3, dot))), api.OK},
		{group(3, group(2, group(1, dot))), api.ErrTree},
		{group(1, group(1, dot)), api.ErrTree},
		{cat(group(1, dot), group(2, dot)), api.OK},
		{cat(group(1, dot), group(1, dot)), api.ErrTree},
		{cat(group(2, dot), group(1, dot)), api.ErrTree},
		{cat(group(1, dot), group(3, dot)), api.ErrTree},
		{cat(group(1, group(2, dot)), group(3, dot)), api.OK},
		{cat(group(1, group(3, dot)), group(2, dot)), api.ErrTree},
		{alt(group(1, dot), cat(dot, rep(group(2, dot), 0, 1)), group(3, dot)), api.OK},
		{alt(group(1, dot), group(1, dot)), api.ErrTree},
	} {
		inAllModes(t, x.n, x.want)
	}
}

// groups is an NCat of NGroups with these numbers, from 1 on so many, then others.
func groups(many int, others ...api.Node) api.Node {
	n := cat()
	for i := range many {
		n.Kids = append(n.Kids, group(i+1, empty()))
	}
	n.Kids = append(n.Kids, others...)
	return n
}

// TestManyGroups: P8.1, 30 may be; the next one is told behind all that makes its tree wrong at it.
func TestManyGroups(t *testing.T) {
	inAllModes(t, groups(30), api.OK)
	inAllModes(t, groups(31), api.ErrMany)
	inAllModes(t, groups(40), api.ErrMany)
	inAllModes(t, groups(30, group(32, empty())), api.ErrTree)
	inAllModes(t, groups(30, group(30, empty())), api.ErrTree)
	inAllModes(t, groups(30, api.Node{Kind: api.NGroup, N: 31}), api.ErrTree)
	inAllModes(t, groups(30, api.Node{Kind: api.NGroup, N: 31, Min: 1, Kids: []api.Node{empty()}}), api.ErrTree)
	inAllModes(t, groups(30, group(31, api.Node{})), api.ErrMany)
	inAllModes(t, groups(30, empty(), group(31, empty())), api.ErrTree)
	inAllModes(t, groups(30, back(9), group(31, empty())), api.ErrMany)
	inner := char('.')
	for i := 31; i > 0; i-- {
		inner = group(i, inner)
		want := api.ErrTree
		if i == 1 {
			want = api.ErrMany
		}
		inAllModes(t, inner, want)
	}
	inAllModes(t, groups(29, group(30, group(31, empty()))), api.ErrMany)
}

// TestBacks: P8.1, the numbers of NBacks, and where their groups end.
func TestBacks(t *testing.T) {
	dot := char('.')
	for number := -2; number <= 40; number++ {
		wants := [2]api.Errno{api.OK, api.ErrBack}
		if number < 1 || number > 9 {
			wants = [2]api.Errno{api.ErrTree, api.ErrTree}
		}
		inAllModes(t, groups(10, back(number)), wants[0])
		inAllModes(t, back(number), wants[1])
		if number >= 1 && number <= 9 {
			inAllModes(t, groups(number-1, back(number), group(number, empty())), api.ErrBack)
			inAllModes(t, groups(number, back(number)), api.OK)
		}
	}
	for _, number := range []int{math.MinInt, math.MaxInt, 1<<32 + 1, 257} {
		inAllModes(t, groups(10, back(number)), api.ErrTree)
	}
	spoilt := back(1)
	spoilt.Kids = []api.Node{dot}
	for _, x := range []struct {
		n    api.Node
		want api.Errno
	}{
		{group(1, cat(group(2, dot), back(2))), api.OK},
		{group(1, cat(group(2, dot), back(1))), api.ErrBack},
		{group(1, cat(group(2, back(1)), dot)), api.ErrBack},
		{group(1, cat(group(2, back(2)), dot)), api.ErrBack},
		{cat(group(1, group(2, dot)), back(1), back(2)), api.OK},
		{cat(group(1, group(2, dot)), group(3, cat(back(2), rep(back(1), 0, 1)))), api.OK},
		{cat(group(1, group(2, dot)), group(3, cat(back(2), rep(back(3), 0, 1)))), api.ErrBack},
		{group(1, group(2, group(3, cat(dot, back(2))))), api.ErrBack},
		{cat(rep(group(1, dot), 0, 0), back(1)), api.OK},
		{alt(group(1, dot), back(1)), api.OK},
		{alt(back(1), group(1, dot)), api.ErrBack},
		{rep(group(1, rep(back(1), 0, 1)), 0, 1), api.ErrBack},
		{cat(group(1, dot), rep(rep(back(1), 0, 1), 0, 1)), api.OK},
		{cat(spoilt, dot), api.ErrTree},
	} {
		inAllModes(t, x.n, x.want)
	}
}

// TestNodesAtTheLimit: P8.1, 2000 nodes may be; the node behind them is told ahead of all else that is wrong with it.
func TestNodesAtTheLimit(t *testing.T) {
	isRight(t, row(1999), neither, api.OK)
	isRight(t, row(2000), neither, api.ErrMany)
	isRight(t, row(100000), neither, api.ErrMany)
	spoilt := func(n api.Node, kid int) api.Node {
		n.Kids[kid] = api.Node{}
		return n
	}
	isRight(t, spoilt(row(2000), 1999), neither, api.ErrMany)
	isRight(t, spoilt(row(2000), 1998), neither, api.ErrTree)
	isRight(t, spoilt(row(1999), 1998), neither, api.ErrTree)
	n := row(2000)
	n.Kids[1998] = back(1)
	isRight(t, n, neither, api.ErrBack)
	n = row(1999)
	n.Kids[1998] = rep(char('a'), 0, 1)
	isRight(t, n, neither, api.ErrMany)
	n.Kids[1998] = group(2, char('a'))
	isRight(t, n, neither, api.ErrTree)
	// The node behind 2000 is too deep, too.
	n = row(1960)
	n.Kids = append(n.Kids, chain(char('a'), 39))
	if tree.Count(n) != 2001 {
		t.Fatal("the test's tree")
	}
	isRight(t, n, neither, api.ErrMany)
	n.Kids = n.Kids[1:]
	isRight(t, n, neither, api.ErrDeep)
	isRight(t, alt(row(998), row(999)), neither, api.OK)
	isRight(t, alt(row(998), row(1000)), neither, api.ErrMany)
	isRight(t, alt(row(998), row(999), empty()), neither, api.ErrMany)
}

// TestDeepAtTheLimit: P8.1, 40 deep may be; the node within is told ahead of all else that is wrong with it, but for its being one too many.
func TestDeepAtTheLimit(t *testing.T) {
	dot := char('.')
	inAllModes(t, chain(dot, 39), api.OK)
	inAllModes(t, chain(dot, 40), api.ErrDeep)
	inAllModes(t, chain(dot, 1<<16-1), api.ErrDeep)
	inAllModes(t, chain(api.Node{}, 39), api.ErrTree)
	inAllModes(t, chain(api.Node{}, 40), api.ErrDeep)
	inAllModes(t, chain(back(1), 39), api.ErrBack)
	inAllModes(t, chain(back(1), 40), api.ErrDeep)
	inAllModes(t, cat(chain(dot, 38), chain(dot, 38)), api.OK)
	inAllModes(t, cat(chain(dot, 38), chain(dot, 39)), api.ErrDeep)
	inAllModes(t, cat(chain(dot, 38), empty(), chain(dot, 39)), api.ErrTree)
	inAllModes(t, cat(chain(dot, 39), empty()), api.ErrDeep)
	// A node 40 deep whose own Kids are too many shows itself ahead of them.
	inAllModes(t, chain(with(api.NSet, dot), 39), api.ErrTree)
	inAllModes(t, chain(rep(dot, 2, 1), 39), api.ErrTree)
	inAllModes(t, chain(rep(dot, 1, 1), 39), api.ErrDeep)
}

// TestFirstNode: P8.1, of several nodes that are wrong the first one in the tree's order is told.
func TestFirstNode(t *testing.T) {
	dot, wrong := char('.'), api.Node{}
	for _, x := range []struct {
		n    api.Node
		want api.Errno
	}{
		{cat(back(1), wrong), api.ErrBack},
		{cat(wrong, back(1)), api.ErrTree},
		{cat(group(1, back(1)), wrong), api.ErrBack},
		{cat(rep(wrong, 0, 1), back(1)), api.ErrTree},
		{cat(rep(back(1), 0, 1), wrong), api.ErrBack},
		{rep(back(1), 2, 1), api.ErrTree},
		{cat(back(1)), api.ErrTree},
		{group(2, back(1)), api.ErrTree},
		{with(api.NGroup, back(1), dot), api.ErrTree},
		{alt(back(1), alt(dot, dot)), api.ErrBack},
		{cat(dot, begin(), back(1)), api.ErrTree},
		{cat(dot, back(1), begin()), api.ErrBack},
	} {
		inAllModes(t, x.n, x.want)
	}
}

// TestRightOfSharedLists: P1 and P8.1, trees that share lists, and endless ones.
func TestRightOfSharedLists(t *testing.T) {
	dot := char('.')
	inAllModes(t, endless(api.Node{Kind: api.NRep, Max: 1}), api.ErrDeep)
	inAllModes(t, endless(api.Node{Kind: api.NGroup, N: 1}), api.ErrTree)
	inAllModes(t, endless(api.Node{Kind: api.NCat}), api.ErrTree)
	inAllModes(t, endless(api.Node{}), api.ErrTree)
	inAllModes(t, doubled(dot, 60), api.ErrTree)
	inAllModes(t, cat(chain(dot, 3), chain(dot, 3)), api.OK)
	wide := row(45)
	n := alt()
	for range 50 {
		n.Kids = append(n.Kids, wide)
	}
	isRight(t, n, neither, api.ErrMany)
	n.Kids = n.Kids[:43]
	isRight(t, n, neither, api.OK)
}
