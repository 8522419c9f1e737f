package tree_test

import (
	"slices"
	"testing"

	"dredge/api"
	"dredge/tree"
)

var (
	neither = api.Mode{}
	chars   = api.Mode{Chars: true}
	fold    = api.Mode{Fold: true}
	both    = api.Mode{Chars: true, Fold: true}
)

func modes() []api.Mode {
	return []api.Mode{neither, chars, fold, both}
}

func empty() api.Node { return api.Node{Kind: api.NEmpty} }
func begin() api.Node { return api.Node{Kind: api.NBegin} }
func end() api.Node   { return api.Node{Kind: api.NEnd} }

func set(bounds ...int) api.Node {
	n := api.Node{Kind: api.NSet}
	for i := 0; i < len(bounds); i += 2 {
		n.Ranges = append(n.Ranges, api.Range{Lo: bounds[i], Hi: bounds[i+1]})
	}
	return n
}

func char(c int) api.Node { return set(c, c) }

func with(kind int, kids ...api.Node) api.Node {
	return api.Node{Kind: kind, Kids: kids}
}

func cat(kids ...api.Node) api.Node { return with(api.NCat, kids...) }
func alt(kids ...api.Node) api.Node { return with(api.NAlt, kids...) }

func group(number int, kid api.Node) api.Node {
	return api.Node{Kind: api.NGroup, N: number, Kids: []api.Node{kid}}
}

func back(number int) api.Node {
	return api.Node{Kind: api.NBack, N: number}
}

func rep(kid api.Node, least, most int) api.Node {
	return api.Node{Kind: api.NRep, Min: least, Max: most, Kids: []api.Node{kid}}
}

// chain is a node within so many NReps.
func chain(n api.Node, reps int) api.Node {
	for range reps {
		n = rep(n, 0, api.Infinite)
	}
	return n
}

// row is an NCat of so many NSets.
func row(sets int) api.Node {
	n := cat()
	for i := range sets {
		n.Kids = append(n.Kids, char(i%256))
	}
	return n
}

// endless is a tree in which a list has itself in it.
func endless(n api.Node) api.Node {
	n.Kids = []api.Node{n}
	n.Kids[0].Kids = n.Kids
	return n
}

// doubled is a tree of two to the power of so many leaves, by lists that it has twice.
func doubled(n api.Node, times int) api.Node {
	for range times {
		n = alt(n, n)
	}
	return n
}

// equal: in all fields; a list of nothing may be nil or empty.
func equal(a, b api.Node) bool {
	return a.Kind == b.Kind && a.N == b.N && a.Min == b.Min && a.Max == b.Max && slices.Equal(a.Ranges, b.Ranges) && slices.EqualFunc(a.Kids, b.Kids, equal)
}

// written is a tree written out by itself, so that it can be held against what came of it later.
func written(n api.Node) api.Node {
	n.Ranges = append([]api.Range(nil), n.Ranges...)
	var kids []api.Node
	for _, k := range n.Kids {
		kids = append(kids, written(k))
	}
	n.Kids = kids
	return n
}

func isCounted(t *testing.T, n api.Node, count, depth, groups int) {
	t.Helper()
	if c, d, g := tree.Count(n), tree.Depth(n), tree.Groups(n); c != count || d != depth || g != groups {
		t.Errorf("Count, Depth, Groups: %d, %d, %d; not %d, %d, %d", c, d, g, count, depth, groups)
	}
}

// TestCounts: P8.2, of trees that are right and of others.
func TestCounts(t *testing.T) {
	isCounted(t, api.Node{}, 1, 1, 0)
	isCounted(t, empty(), 1, 1, 0)
	isCounted(t, api.Node{Kind: api.NGroup}, 1, 1, 1)
	isCounted(t, group(7, char('a')), 2, 2, 1)
	isCounted(t, cat(char('a'), group(1, empty())), 4, 3, 1)
	isCounted(t, cat(group(1, group(2, rep(group(3, empty()), 0, 1))), char('a'), group(9, empty())), 9, 6, 4)
	isCounted(t, with(99, with(-5, with(api.NSet, with(api.NBack))), group(0, empty())), 6, 4, 1)
	isCounted(t, cat(char('a'), chain(char('a'), 9), char('a')), 13, 11, 0)
}

// TestCountsAtTheLimit: P8.2, 2000 nodes and more, in rows, in chains, in trees that share lists and in endless ones.
func TestCountsAtTheLimit(t *testing.T) {
	isCounted(t, row(1998), 1999, 2, 0)
	isCounted(t, row(1999), 2000, 2, 0)
	isCounted(t, row(2000), 2001, 0, 0)
	isCounted(t, row(2001), 2001, 0, 0)
	isCounted(t, row(100000), 2001, 0, 0)
	isCounted(t, chain(group(1, empty()), 1998), 2000, 2000, 1)
	isCounted(t, chain(group(1, empty()), 1999), 2001, 0, 0)
	isCounted(t, chain(group(1, empty()), 1<<16-2), 2001, 0, 0)
	isCounted(t, cat(row(997), row(1000)), 2000, 3, 0)
	isCounted(t, cat(row(997), row(1001)), 2001, 0, 0)
	isCounted(t, cat(row(997), group(1, row(1000))), 2001, 0, 0)
	isCounted(t, doubled(group(1, empty()), 9), 511+1024, 11, 512)
	isCounted(t, doubled(empty(), 9), 1023, 10, 0)
	isCounted(t, doubled(empty(), 60), 2001, 0, 0)
	isCounted(t, endless(group(1, empty())), 2001, 0, 0)
	isCounted(t, cat(char('a'), endless(api.Node{}), group(1, empty())), 2001, 0, 0)
}

// different is trees of which no two are the same.
func different() []api.Node {
	a, b := char('a'), char('b')
	l := []api.Node{
		{}, {Kind: -1}, {Kind: 99}, empty(), begin(), end(), {N: 1}, {Min: 1}, {Max: 1}, {Kind: api.NEmpty, N: 1},
		set(), a, b, set('a', 'b'), set('a', 'a', 'b', 'b'), set('b', 'b', 'a', 'a'), set('a', 'a', 'a', 'a'), set('b', 'a'),
		back(1), back(2), back(0), back(-1),
		rep(a, 0, 1), rep(a, 1, 1), rep(a, 0, 2), rep(a, 0, -1), rep(b, 0, 1), rep(rep(a, 0, 1), 0, 1),
		group(1, a), group(2, a), group(1, b), group(1, empty()),
		cat(), cat(a), cat(a, b), cat(b, a), cat(a, a), cat(a, b, a), cat(a, a, b), cat(cat(a, b), a), cat(a, cat(b, a)), cat(cat(a, b, a)),
		alt(), alt(a), alt(a, b), alt(cat(a, b), a), alt(a, cat(b, a)),
		cat(a, api.Node{}), cat(api.Node{}, a), cat(api.Node{}, api.Node{}),
		chain(a, 5), chain(a, 6), chain(b, 5), row(1998), row(1999),
	}
	deep := func(n int) api.Node {
		return cat(a, group(1, alt(rep(cat(begin(), back(n)), 0, 1), b)), end())
	}
	return append(l, deep(1), deep(2))
}

// TestSame: P8.2, each tree is the same as itself written out again, and as no other.
func TestSame(t *testing.T) {
	for i, a := range different() {
		for j, b := range different() {
			if got := tree.Same(a, b); got != (i == j) {
				t.Errorf("Same of the trees %d and %d: %v", i, j, got)
			}
		}
	}
}

// TestSameByEachField: P8.2, a field in which two trees differ, however deep, makes them different, whatever the kind.
func TestSameByEachField(t *testing.T) {
	changes := []func(*api.Node){
		func(n *api.Node) { n.Kind++ },
		func(n *api.Node) { n.N-- },
		func(n *api.Node) { n.Min++ },
		func(n *api.Node) { n.Max += 256 },
		func(n *api.Node) { n.Ranges = append(n.Ranges, api.Range{}) },
		func(n *api.Node) { n.Ranges[0].Lo++ },
		func(n *api.Node) { n.Ranges[1].Hi++ },
		func(n *api.Node) { n.Ranges = n.Ranges[:1] },
		func(n *api.Node) { n.Kids = append(n.Kids, api.Node{}) },
	}
	for kind := -1; kind <= 10; kind++ {
		for deep := range 4 {
			for i, change := range changes {
				a := api.Node{Kind: kind, N: 3, Min: 4, Max: 5, Ranges: []api.Range{{Lo: 1, Hi: 2}, {Lo: 7, Hi: 9}}}
				b := written(a)
				change(&b)
				for range deep {
					a, b = cat(empty(), a, char('x')), cat(empty(), b, char('x'))
				}
				if tree.Same(a, b) || tree.Same(b, a) || !tree.Same(a, a) || !tree.Same(b, written(b)) {
					t.Errorf("Same of the change %d of the kind %d, %d deep", i, kind, deep)
				}
			}
		}
	}
}

// TestSameOfNothing: P5 and P8.2, a list of nothing may be nil or empty.
func TestSameOfNothing(t *testing.T) {
	a, b := api.Node{Kind: api.NSet}, api.Node{Kind: api.NSet, Ranges: []api.Range{}, Kids: []api.Node{}}
	if !tree.Same(a, b) || !tree.Same(b, a) || !tree.Same(cat(a, b), cat(b, a)) {
		t.Error("Same of lists of nothing")
	}
}

// TestSameAtTheLimit: P8.2, no tree of more than 2000 nodes is the same as any.
func TestSameAtTheLimit(t *testing.T) {
	for i, n := range []api.Node{row(2000), row(3000), chain(empty(), 2000), doubled(empty(), 60), endless(empty()), endless(group(1, empty())), cat(endless(empty()), empty())} {
		if tree.Same(n, n) || tree.Same(n, written(empty())) || tree.Same(row(1999), n) || tree.Same(n, row(1999)) {
			t.Errorf("Same of the tree %d, which has too many nodes", i)
		}
	}
	if !tree.Same(row(1999), row(1999)) || !tree.Same(chain(empty(), 1999), chain(empty(), 1999)) {
		t.Error("Same of 2000 nodes")
	}
}

// told is what All tells of a node.
type told struct {
	deep int
	node api.Node
}

func tells(n api.Node) []told {
	var l []told
	for deep, node := range tree.All(n) {
		l = append(l, told{deep, node})
	}
	return l
}

func sameTold(a, b told) bool {
	return a.deep == b.deep && equal(a.node, b.node)
}

// inOrder is what All is to tell, by a list of what is still to be gone over, the next one last.
func inOrder(n api.Node) []told {
	var l []told
	left := []told{{1, n}}
	for len(left) > 0 && len(l) < 2000 {
		next := left[len(left)-1]
		left = left[:len(left)-1]
		for i := len(next.node.Kids) - 1; i >= 0; i-- {
			left = append(left, told{next.deep + 1, next.node.Kids[i]})
		}
		next.node.Kids = nil
		l = append(l, next)
	}
	return l
}

// TestAll: P8.3, the chapter's example, and the order of all other trees of these tests.
func TestAll(t *testing.T) {
	n := cat(char('a'), group(1, empty()))
	want := []told{{1, cat()}, {2, char('a')}, {2, api.Node{Kind: api.NGroup, N: 1}}, {3, empty()}}
	if got := tells(n); !slices.EqualFunc(got, want, sameTold) {
		t.Errorf("All: %v", got)
	}
	for i, n := range append(different(), doubled(set('a', 'z'), 9), chain(begin(), 1999)) {
		if got := tells(n); !slices.EqualFunc(got, inOrder(n), sameTold) {
			t.Errorf("All of the tree %d: %v", i, got)
		}
	}
}

// TestAllKeepsFields: P8.3, a node is told as it is, right or not.
func TestAllKeepsFields(t *testing.T) {
	for kind := -1; kind <= 10; kind++ {
		n := api.Node{Kind: kind, N: 5, Min: -7, Max: 8, Ranges: []api.Range{{Lo: 9, Hi: 2}}}
		want := []told{{1, written(n)}, {2, written(n)}}
		n.Kids = []api.Node{written(n)}
		if got := tells(n); !slices.EqualFunc(got, want, sameTold) {
			t.Errorf("All of the kind %d: %v", kind, got)
		}
	}
}

// TestAllAtTheLimit: P8.3, it ends behind 2000 nodes.
func TestAllAtTheLimit(t *testing.T) {
	for i, n := range []api.Node{row(1998), row(1999), row(2000), row(5000), chain(empty(), 1999), chain(empty(), 2000), doubled(empty(), 60), endless(group(1, empty())), cat(row(1500), row(1500))} {
		got := tells(n)
		if len(got) != min(2000, tree.Count(n)) || !slices.EqualFunc(got, inOrder(n), sameTold) {
			t.Errorf("All of the tree %d tells %d", i, len(got))
		}
	}
}

// TestAllLeftEarly: P3 and P8.3, left early, gone over again, and within itself.
func TestAllLeftEarly(t *testing.T) {
	n := cat(char('a'), group(1, alt(char('b'), rep(char('c'), 0, 1))), end())
	want := inOrder(n)
	all := tree.All(n)
	for most := 1; most <= len(want); most++ {
		var l []told
		for deep, node := range all {
			l = append(l, told{deep, node})
			if len(l) == most {
				break
			}
		}
		if !slices.EqualFunc(l, want[:most], sameTold) {
			t.Errorf("the first %d: %v", most, l)
		}
	}
	i := 0
	for deep, node := range all {
		j := 0
		for deeper, other := range all {
			if !sameTold(told{deeper, other}, want[j]) {
				t.Errorf("within the node %d the node %d: %d, %v", i, j, deeper, other)
			}
			j++
		}
		if j != len(want) || !sameTold(told{deep, node}, want[i]) {
			t.Errorf("the node %d: %d, %v; within it %d", i, deep, node, j)
		}
		i++
	}
	if i != len(want) {
		t.Errorf("All tells %d", i)
	}
}

// TestAllGoesOverWhatThereWas: P3, what is done to the tree while a range goes over it shows in the next one alone.
func TestAllGoesOverWhatThereWas(t *testing.T) {
	n := cat(set('a', 'b'), group(1, char('c')), char('d'))
	want := inOrder(written(n))
	all := tree.All(n)
	var l []told
	for deep, node := range all {
		n.Kids[0].Ranges[0] = api.Range{Lo: 1, Hi: 1}
		n.Kids[1].Kids[0].Ranges[0].Hi = 999
		n.Kids[1].Kids[0].N = 4
		n.Kids[2] = group(7, empty())
		l = append(l, told{deep, node})
	}
	if !slices.EqualFunc(l, want, sameTold) {
		t.Errorf("All tells what was done within it: %v", l)
	}
	if got := tells(n); !slices.EqualFunc(got, inOrder(n), sameTold) {
		t.Errorf("All behind that: %v", got)
	}
	l = nil
	for deep, node := range all {
		l = append(l, told{deep, node})
	}
	if !slices.EqualFunc(l, inOrder(n), sameTold) {
		t.Errorf("gone over again behind that: %v", l)
	}
}

// TestAllNewMemory: P3, what is done to a node that was told shows nowhere else.
func TestAllNewMemory(t *testing.T) {
	shared := set('a', 'b', 'd', 'e')
	shared.Ranges = append(make([]api.Range, 0, 9), shared.Ranges...)
	n := cat(shared, rep(shared, 0, 1), shared, set())
	kept, want := written(n), inOrder(written(n))
	all := tree.All(n)
	for range 2 {
		i := 0
		for deep, node := range all {
			if !sameTold(told{deep, node}, want[i]) {
				t.Errorf("the node %d: %d, %v", i, deep, node)
			}
			spoilt := node.Ranges[:cap(node.Ranges)]
			for j := range spoilt {
				spoilt[j] = api.Range{Lo: -1, Hi: -1}
			}
			i++
		}
	}
	room := shared.Ranges[:cap(shared.Ranges)]
	if !equal(n, kept) || room[len(room)-1] != (api.Range{}) {
		t.Errorf("the tree changed: %v", n)
	}
}

// TestAskingChangesNothing: P3, the calls that ask write into nothing, nor behind it.
func TestAskingChangesNothing(t *testing.T) {
	room := []api.Node{char('a'), group(1, set('a', 'c')), back(1), char('z'), char('y')}
	n := cat()
	n.Kids = room[:3]
	kept := written(cat(room...))
	for _, mode := range modes() {
		tree.Right(n, mode)
	}
	tree.Same(n, n)
	tree.Count(n)
	tree.Depth(n)
	tree.Groups(n)
	tells(n)
	if !equal(cat(room...), kept) {
		t.Errorf("the tree changed: %v", room)
	}
}
