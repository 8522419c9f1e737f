package tree_test

import (
	"slices"
	"strings"
	"testing"

	"dredge/api"
	"dredge/tree"
)

func isMade(t *testing.T, got, want api.Node) {
	t.Helper()
	if !equal(got, want) {
		t.Errorf("made: %v, not %v", got, want)
	}
}

// wrongNode is a node that has fields that no kind has together.
func wrongNode(kind int, kids ...api.Node) api.Node {
	return api.Node{Kind: kind, N: 3, Min: 7, Max: -4, Ranges: []api.Range{{Lo: 9, Hi: 1}, {Lo: -2, Hi: 5}}, Kids: kids}
}

// TestCat: P8.4, nothing, one and more; NEmptys and NCats among them.
func TestCat(t *testing.T) {
	a, b, c := char('a'), char('b'), char('c')
	isMade(t, tree.Cat(), empty())
	isMade(t, tree.Cat([]api.Node{}...), empty())
	isMade(t, tree.Cat(empty()), empty())
	isMade(t, tree.Cat(empty(), empty()), empty())
	isMade(t, tree.Cat(a), a)
	isMade(t, tree.Cat(empty(), a), a)
	isMade(t, tree.Cat(empty(), a, empty()), a)
	isMade(t, tree.Cat(a, b), cat(a, b))
	isMade(t, tree.Cat(a, a), cat(a, a))
	isMade(t, tree.Cat(empty(), a, empty(), b, empty()), cat(a, b))
	isMade(t, tree.Cat(cat(a, b)), cat(a, b))
	isMade(t, tree.Cat(cat(a, b), c), cat(a, b, c))
	isMade(t, tree.Cat(a, cat(b, c)), cat(a, b, c))
	isMade(t, tree.Cat(cat(a, b), empty(), cat(b, c)), cat(a, b, b, c))
	isMade(t, tree.Cat(alt(a, b)), alt(a, b))
	isMade(t, tree.Cat(alt(a, b), c), cat(alt(a, b), c))
	isMade(t, tree.Cat(begin(), group(1, empty()), back(1), rep(a, 0, 1), end()), cat(begin(), group(1, empty()), back(1), rep(a, 0, 1), end()))
}

// TestCatOfAnyNodes: P8.4, what is right is not asked; at what was an NCat's Kid no more is looked.
func TestCatOfAnyNodes(t *testing.T) {
	a, b := char('a'), char('b')
	isMade(t, tree.Cat(cat()), empty())
	isMade(t, tree.Cat(cat(), cat()), empty())
	isMade(t, tree.Cat(cat(), a), a)
	isMade(t, tree.Cat(cat(a)), a)
	isMade(t, tree.Cat(cat(a), cat(b)), cat(a, b))
	isMade(t, tree.Cat(cat(cat(a, b))), cat(a, b))
	isMade(t, tree.Cat(cat(cat(a, b), a)), cat(cat(a, b), a))
	isMade(t, tree.Cat(cat(cat()), b), cat(cat(), b))
	isMade(t, tree.Cat(cat(empty(), a)), cat(empty(), a))
	isMade(t, tree.Cat(cat(empty(), empty())), cat(empty(), empty()))
	isMade(t, tree.Cat(cat(empty())), empty())
	isMade(t, tree.Cat(cat(empty()), a), cat(empty(), a))
	isMade(t, tree.Cat(group(1, cat(empty(), cat(a)))), group(1, cat(empty(), cat(a))))
	isMade(t, tree.Cat(wrongNode(api.NEmpty, a)), empty())
	isMade(t, tree.Cat(wrongNode(api.NCat, a, b)), cat(a, b))
	isMade(t, tree.Cat(wrongNode(api.NCat, wrongNode(api.NEmpty))), wrongNode(api.NEmpty))
	for kind := -1; kind <= 10; kind++ {
		if kind == api.NEmpty || kind == api.NCat {
			continue
		}
		n := wrongNode(kind, empty(), cat(wrongNode(kind)))
		isMade(t, tree.Cat(n), n)
		isMade(t, tree.Cat(n, a, n), cat(n, a, n))
	}
}

// TestAlt: P8.4, nothing, one and more; NAlts among them. NEmptys stay.
func TestAlt(t *testing.T) {
	a, b, c := char('a'), char('b'), char('c')
	isMade(t, tree.Alt(), set())
	isMade(t, tree.Alt([]api.Node{}...), set())
	isMade(t, tree.Alt(empty()), empty())
	isMade(t, tree.Alt(a), a)
	isMade(t, tree.Alt(a, b), alt(a, b))
	isMade(t, tree.Alt(a, a), alt(a, a))
	isMade(t, tree.Alt(empty(), a), alt(empty(), a))
	isMade(t, tree.Alt(empty(), empty()), alt(empty(), empty()))
	isMade(t, tree.Alt(set(), a), alt(set(), a))
	isMade(t, tree.Alt(alt(a, b)), alt(a, b))
	isMade(t, tree.Alt(alt(a, b), c), alt(a, b, c))
	isMade(t, tree.Alt(a, alt(b, c)), alt(a, b, c))
	isMade(t, tree.Alt(alt(a, b), empty(), alt(b, c)), alt(a, b, empty(), b, c))
	isMade(t, tree.Alt(cat(a, b)), cat(a, b))
	isMade(t, tree.Alt(cat(a, b), c), alt(cat(a, b), c))
}

// TestAltOfAnyNodes: P8.4, what is right is not asked.
func TestAltOfAnyNodes(t *testing.T) {
	a, b := char('a'), char('b')
	isMade(t, tree.Alt(alt()), set())
	isMade(t, tree.Alt(alt(), alt()), set())
	isMade(t, tree.Alt(alt(), a), a)
	isMade(t, tree.Alt(alt(a)), a)
	isMade(t, tree.Alt(alt(a), alt(b)), alt(a, b))
	isMade(t, tree.Alt(alt(alt(a, b))), alt(a, b))
	isMade(t, tree.Alt(alt(alt(a, b), a)), alt(alt(a, b), a))
	isMade(t, tree.Alt(alt(alt()), b), alt(alt(), b))
	isMade(t, tree.Alt(wrongNode(api.NAlt, a, b)), alt(a, b))
	for kind := -1; kind <= 10; kind++ {
		if kind == api.NAlt {
			continue
		}
		n := wrongNode(kind, empty(), alt(wrongNode(kind)))
		isMade(t, tree.Alt(n), n)
		isMade(t, tree.Alt(n, a, n), alt(n, a, n))
	}
}

// TestGreatTrees: P1 and P8.4, long lists and deep trees.
func TestGreatTrees(t *testing.T) {
	many := row(100000)
	isMade(t, tree.Cat(many.Kids...), many)
	isMade(t, tree.Cat(many, many, empty()), cat(append(slices.Clone(many.Kids), many.Kids...)...))
	isMade(t, tree.Alt(many.Kids...), alt(many.Kids...))
	deep := chain(char('a'), 1<<16-2)
	isMade(t, tree.Cat(deep), deep)
	isMade(t, tree.Alt(deep), deep)
	n, e := tree.Rep(deep, 0, api.Infinite)
	if isMade(t, n, chain(deep, 1)); e != api.OK {
		t.Errorf("Rep of a deep tree: %v", e)
	}
}

// TestRep: P8.4, of which kinds, and by which bounds. Of two errors the kind's is told.
func TestRep(t *testing.T) {
	for kind := -1; kind <= 10; kind++ {
		for _, n := range []api.Node{anyKind(kind), wrongNode(kind, empty(), begin())} {
			for _, least := range edges() {
				for _, most := range edges() {
					want, e := rep(n, least, most), api.OK
					if !boundsMayBe(least, most) {
						want, e = api.Node{}, api.ErrArg
					}
					if !slices.Contains([]int{api.NSet, api.NGroup, api.NBack, api.NRep}, kind) {
						want, e = api.Node{}, api.ErrTree
					}
					got, err := tree.Rep(n, least, most)
					if err != e || !equal(got, want) {
						t.Errorf("Rep(%v, %d, %d): %v, %v", n, least, most, got, err)
					}
				}
			}
		}
	}
}

func isLiteral(t *testing.T, text string, mode api.Mode, want api.Node) {
	t.Helper()
	n, e := tree.Literal(text, mode)
	if e != api.OK || !equal(n, want) {
		t.Errorf("Literal(%q, %v): %v, %v; not %v", text, mode, n, e, want)
	}
	if e := tree.Right(n, mode); e != api.OK {
		t.Errorf("Right of Literal(%q, %v): %v", text, mode, e)
	}
}

// TestLiteral: P8.4, texts of no unit, of one and of more, in all modes.
func TestLiteral(t *testing.T) {
	for _, mode := range modes() {
		isLiteral(t, "", mode, empty())
		isLiteral(t, ".", mode, char('.'))
		isLiteral(t, "..", mode, cat(char('.'), char('.')))
		isLiteral(t, `\*[`, mode, cat(char('\\'), char('*'), char('[')))
		isLiteral(t, "\x00\n\x7f", mode, cat(char(0), char(10), char(127)))
	}
	both1, both2 := set('A', 'A', 'a', 'a'), set('Z', 'Z', 'z', 'z')
	isLiteral(t, "aZ", neither, cat(char('a'), char('Z')))
	isLiteral(t, "aZ", chars, cat(char('a'), char('Z')))
	isLiteral(t, "aZ1Az", fold, cat(both1, both2, char('1'), both1, both2))
	isLiteral(t, "aZ1Az", both, cat(both1, both2, char('1'), both1, both2))
	isLiteral(t, "é€", neither, cat(char(0xc3), char(0xa9), char(0xe2), char(0x82), char(0xac)))
	isLiteral(t, "é€", fold, cat(char(0xc3), char(0xa9), char(0xe2), char(0x82), char(0xac)))
	for _, mode := range []api.Mode{chars, both} {
		isLiteral(t, "é€", mode, cat(char(0xe9), char(0x20ac)))
		isLiteral(t, "É", mode, char(0xc9))
		isLiteral(t, "\u212a\u017f", mode, cat(char(0x212a), char(0x17f)))
		isLiteral(t, "\ufffd", mode, char(0xfffd))
		isLiteral(t, "\u0080\u07ff\u0800\ud7ff\ue000\uffff\U00010000\U0010ffff", mode, cat(char(0x80), char(0x7ff), char(0x800), char(0xd7ff), char(0xe000), char(0xffff), char(0x10000), char(0x10ffff)))
	}
}

// TestLiteralOfEachUnit: P8.4, each byte, and each character up to behind the letters' other forms.
func TestLiteralOfEachUnit(t *testing.T) {
	for c := range 0x2200 {
		want := char(c)
		folded := want
		if c < 128 && 'a' <= c|32 && c|32 <= 'z' {
			folded = set(c&^32, c&^32, c|32, c|32)
		}
		if c < 256 {
			isLiteral(t, string([]byte{byte(c)}), neither, want)
			isLiteral(t, string([]byte{byte(c)}), fold, folded)
		}
		isLiteral(t, string(rune(c)), chars, want)
		isLiteral(t, string(rune(c)), both, folded)
	}
}

// TestLiteralOfNoCharacter: P8.4, with Chars a unit that is none is ErrChar, wherever it stands; without, it is bytes.
func TestLiteralOfNoCharacter(t *testing.T) {
	for _, none := range []string{"\xff", "\x80", "\xc3", "\xe2\x82", "\xc0\x80", "\xc1\xbf", "\xe0\x9f\xbf", "\xed\xa0\x80", "\xed\xbf\xbf", "\xf0\x8f\xbf\xbf", "\xf4\x90\x80\x80", "\xf8\x88\x80\x80\x80"} {
		for _, text := range []string{none, "a" + none, none + "a", "é" + none + "€", strings.Repeat("a", 3000) + none} {
			for _, mode := range []api.Mode{chars, both} {
				if n, e := tree.Literal(text, mode); e != api.ErrChar || !equal(n, api.Node{}) {
					t.Errorf("Literal(%q, %v): %v, %v", text, mode, n, e)
				}
			}
			for _, mode := range []api.Mode{neither, fold} {
				if n, e := tree.Literal(text, mode); e != api.OK || len(n.Kids) != len(text) && len(text) > 1 {
					t.Errorf("Literal(%q, %v): %d Kids, %v", text, mode, len(n.Kids), e)
				}
			}
		}
	}
}

// TestLongLiterals: P8.4 and P8.5, right up to 1999 units; made beyond that, too.
func TestLongLiterals(t *testing.T) {
	for _, mode := range modes() {
		for _, unit := range []string{"a", "."} {
			for _, units := range []int{1998, 1999, 2000, 50000} {
				n, e := tree.Literal(strings.Repeat(unit, units), mode)
				if e != api.OK || len(n.Kids) != units || n.Kind != api.NCat {
					t.Errorf("Literal of %d units: %d Kids, %v", units, len(n.Kids), e)
				}
				want := api.OK
				if units > 1999 {
					want = api.ErrMany
				}
				isRight(t, n, mode, want)
			}
		}
	}
	n, _ := tree.Literal(strings.Repeat("€", 1999), chars)
	isRight(t, n, chars, api.OK)
	isRight(t, n, neither, api.ErrTree)
}

// memory notes where the lists of some trees stand, spare room too, and tells whether a place came up twice.
type memory struct {
	ranges map[*api.Range]bool
	nodes  map[*api.Node]bool
	twice  bool
}

func newMemory() *memory {
	return &memory{ranges: map[*api.Range]bool{}, nodes: map[*api.Node]bool{}}
}

func (m *memory) note(n api.Node) {
	l := n.Ranges[:cap(n.Ranges)]
	for i := range l {
		m.twice = m.twice || m.ranges[&l[i]]
		m.ranges[&l[i]] = true
	}
	kids := n.Kids[:cap(n.Kids)]
	for i := range kids {
		m.twice = m.twice || m.nodes[&kids[i]]
		m.nodes[&kids[i]] = true
		if i < len(n.Kids) {
			m.note(kids[i])
		}
	}
}

// TestNewMemory: P3, no list of an answer shares memory with what was handed in, with another one, or with another answer's.
func TestNewMemory(t *testing.T) {
	twin := set('a', 'b', 'd', 'd')
	part := cat(twin, rep(twin, 0, 1), group(1, alt(twin, empty())))
	room := make([]api.Node, 0, 8)
	l := append(room, part, part, alt(part, twin), empty(), twin, wrongNode(99, twin, part), wrongNode(api.NBegin))
	kept := written(cat(l...))
	makes := []func() api.Node{
		func() api.Node { return tree.Cat(l...) },
		func() api.Node { return tree.Alt(l...) },
		func() api.Node { return tree.Cat(part) },
		func() api.Node { return tree.Cat(twin) },
		func() api.Node { return tree.Cat(l[2]) },
		func() api.Node { return tree.Alt(l[2]) },
		func() api.Node { return tree.Alt(part) },
		func() api.Node { n, _ := tree.Rep(twin, 0, 1); return n },
		func() api.Node { n, _ := tree.Rep(part.Kids[2], 0, 1); return n },
		func() api.Node { n, _ := tree.Rep(part.Kids[1], 0, 1); return n },
		func() api.Node { n, _ := tree.Literal("aaaa", fold); return n },
		func() api.Node { n, _ := tree.Literal("a", neither); return n },
		func() api.Node { return tree.Cat() },
		func() api.Node { return tree.Alt() },
	}
	given := newMemory()
	given.note(cat(l...))
	for i, make := range makes {
		m := newMemory()
		first, second := make(), make()
		m.note(first)
		m.note(second)
		for p := range m.ranges {
			m.twice = m.twice || given.ranges[p]
		}
		for p := range m.nodes {
			m.twice = m.twice || given.nodes[p]
		}
		if m.twice {
			t.Errorf("the answer %d shares memory", i)
		}
	}
	if !equal(cat(l...), kept) || !equal(room[:8][7], api.Node{}) {
		t.Error("what was handed in changed")
	}
}

// TestNothingBehindIsWritten: P3, lists that have others behind them in their array stay whole.
func TestNothingBehindIsWritten(t *testing.T) {
	a, b, c := char('a'), char('b'), char('c')
	row := []api.Node{a, b, c, end()}
	kept := written(cat(row...))
	for range 2 {
		isMade(t, tree.Cat(with(api.NCat, row[:2]...), begin(), begin()), cat(a, b, begin(), begin()))
		isMade(t, tree.Alt(with(api.NAlt, row[:2]...), begin(), begin()), alt(a, b, begin(), begin()))
		isMade(t, tree.Cat(row[:2]...), cat(a, b))
		isMade(t, tree.Alt(row[:2]...), alt(a, b))
		isMade(t, tree.Cat(row[:1]...), a)
	}
	if !equal(cat(row...), kept) {
		t.Errorf("what stands behind changed: %v", row)
	}
}

// TestCatOfCats: P8.5, of all ways to part rows of right nodes.
func TestCatOfCats(t *testing.T) {
	things := []api.Node{empty(), char('a'), begin(), cat(char('b'), end()), cat(begin(), char('c'), char('d')), group(1, empty()), alt(char('x'), empty()), rep(char('y'), 0, 1)}
	next := numbers(5)
	for range 3000 {
		var l []api.Node
		for range next(7) {
			l = append(l, things[next(len(things))])
		}
		i := next(len(l) + 1)
		j := i + next(len(l)-i+1)
		want := tree.Cat(l...)
		isMade(t, tree.Cat(tree.Cat(l[:i]...), tree.Cat(l[i:j]...), tree.Cat(l[j:]...)), want)
		isMade(t, tree.Cat(want), want)
	}
}
