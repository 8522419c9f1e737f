package parse_test

import (
	"errors"
	"fmt"
	"slices"
	"strings"
	"testing"

	"dredge/api"
	"dredge/parse"
	"dredge/tree"
)

var (
	neither = api.Mode{}
	chars   = api.Mode{Chars: true}
	fold    = api.Mode{Fold: true}
	both    = api.Mode{Chars: true, Fold: true}
)

func modes() []api.Mode {
	return []api.Mode{neither, chars, fold, both}
}

func empty() api.Node { return api.Node{Kind: api.NEmpty} }
func begin() api.Node { return api.Node{Kind: api.NBegin} }
func end() api.Node   { return api.Node{Kind: api.NEnd} }

func set(bounds ...int) api.Node {
	n := api.Node{Kind: api.NSet}
	for i := 0; i < len(bounds); i += 2 {
		n.Ranges = append(n.Ranges, api.Range{Lo: bounds[i], Hi: bounds[i+1]})
	}
	return n
}

func char(c int) api.Node { return set(c, c) }

func cat(kids ...api.Node) api.Node { return api.Node{Kind: api.NCat, Kids: kids} }
func alt(kids ...api.Node) api.Node { return api.Node{Kind: api.NAlt, Kids: kids} }

func group(number int, kid api.Node) api.Node {
	return api.Node{Kind: api.NGroup, N: number, Kids: []api.Node{kid}}
}

func back(number int) api.Node { return api.Node{Kind: api.NBack, N: number} }

func rep(kid api.Node, least, most int) api.Node {
	return api.Node{Kind: api.NRep, Min: least, Max: most, Kids: []api.Node{kid}}
}

func star(kid api.Node) api.Node { return rep(kid, 0, api.Infinite) }

// equal: in all fields, of trees of any size; a list of nothing may be nil or empty.
func equal(a, b api.Node) bool {
	return a.Kind == b.Kind && a.N == b.N && a.Min == b.Min && a.Max == b.Max && slices.Equal(a.Ranges, b.Ranges) && slices.EqualFunc(a.Kids, b.Kids, equal)
}

// short is the beginning of what a tree looks like: some of them are too great to be read.
func short(n api.Node) string {
	s := fmt.Sprint(n)
	if len(s) > 500 {
		return s[:500] + ".."
	}
	return s
}

// isTree: Parse tells a tree, and it is right.
func isTree(t *testing.T, pattern string, mode api.Mode, want api.Node) {
	t.Helper()
	n, err := parse.Parse(pattern, mode)
	if err != nil || !equal(n, want) {
		t.Errorf("Parse(%.60q, %v): %v, %v; not %v", pattern, mode, short(n), err, short(want))
		return
	}
	if e := tree.Right(n, mode); e != api.OK {
		t.Errorf("Right of Parse(%.60q, %v): %v", pattern, mode, e)
	}
}

// isWrong: Parse tells an error with its place, and nothing beside it.
func isWrong(t *testing.T, pattern string, mode api.Mode, code api.Errno, at int) {
	t.Helper()
	n, err := parse.Parse(pattern, mode)
	var bad *api.Bad
	if !errors.As(err, &bad) || *bad != (api.Bad{Code: code, At: at}) || !errors.Is(err, code) || !equal(n, api.Node{}) {
		t.Errorf("Parse(%.60q, %v): %v, %v; not %v at %d", pattern, mode, short(n), err, code, at)
	}
}

// isWrongInAll: in all modes.
func isWrongInAll(t *testing.T, pattern string, code api.Errno, at int) {
	t.Helper()
	for _, mode := range modes() {
		isWrong(t, pattern, mode, code, at)
	}
}

// TestExamples: the chapter's.
func TestExamples(t *testing.T) {
	a, b := char('a'), char('b')
	isTree(t, "", neither, empty())
	isTree(t, "a", neither, a)
	isTree(t, "ab", neither, cat(a, b))
	isTree(t, `a\|`, neither, alt(a, empty()))
	isTree(t, `\(\)`, neither, group(1, empty()))
	isTree(t, `a*\{2\}`, neither, rep(star(a), 2, 2))
	isTree(t, `\(a\(b\)\)\2`, neither, cat(group(1, cat(a, group(2, b))), back(2)))
	isWrongInAll(t, `a\)`, api.ErrClose, 1)
	isWrongInAll(t, `\(\(a\)`, api.ErrOpen, 0)
	isWrongInAll(t, `\(a\1\)`, api.ErrBack, 3)
	isWrongInAll(t, `\2\(a\)`, api.ErrBack, 0)
	isWrongInAll(t, "a"+strings.Repeat("*", 40), api.ErrDeep, 0)
}

// TestLeaves: P9.1, a node for each token that has nothing within it, in all modes.
func TestLeaves(t *testing.T) {
	for _, mode := range modes() {
		isTree(t, "^", mode, begin())
		isTree(t, "$", mode, end())
		isTree(t, "-", mode, char('-'))
		isTree(t, `\.`, mode, char('.'))
		isTree(t, "*", mode, char('*'))
		isTree(t, "[0-9]", mode, set('0', '9'))
		for n := 1; n <= 9; n++ {
			var want []api.Node
			for i := range 9 {
				want = append(want, group(i+1, empty()))
			}
			isTree(t, strings.Repeat(`\(\)`, 9)+`\`+string(rune('0'+n)), mode, cat(append(want, back(n))...))
		}
	}
	isTree(t, ".", neither, set(0, 255))
	isTree(t, ".", fold, set(0, 255))
	isTree(t, ".", chars, set(0, 55295, 57344, 1114111))
	isTree(t, "a", fold, set('A', 'A', 'a', 'a'))
	isTree(t, "é", neither, cat(char(0xc3), char(0xa9)))
	isTree(t, "é", both, char(0xe9))
	isTree(t, "[^a-c]", fold, set(0, 64, 68, 96, 100, 255))
	isTree(t, "[^\x00-\xff]", neither, set())
	isTree(t, "[^\x00-\xff]*x", neither, cat(star(set()), char('x')))
	isTree(t, "[^\x00-\U0010ffff]", chars, set())
	isTree(t, "\xff", neither, char(255))
}

// TestBranches: P9.1, rows of none, one and more items; anchors where they are some, and where they are characters.
func TestBranches(t *testing.T) {
	a, b, c := char('a'), char('b'), char('c')
	isTree(t, "abc", neither, cat(a, b, c))
	isTree(t, "^$", neither, cat(begin(), end()))
	isTree(t, "^a$", neither, cat(begin(), a, end()))
	isTree(t, "a^b$c", neither, cat(a, char('^'), b, char('$'), c))
	isTree(t, "^^", neither, cat(begin(), char('^')))
	isTree(t, "$$", neither, cat(char('$'), end()))
	isTree(t, "^*", neither, cat(begin(), char('*')))
	isTree(t, "^**", neither, cat(begin(), star(char('*'))))
	isTree(t, "$*", neither, star(char('$')))
	isTree(t, "a$*", neither, cat(a, star(char('$'))))
	isTree(t, `\(^a$\)b`, neither, cat(group(1, cat(begin(), a, end())), b))
	isTree(t, `a\(^\)\($\)`, neither, cat(a, group(1, begin()), group(2, end())))
	isTree(t, `\(^$\)*`, neither, star(group(1, cat(begin(), end()))))
	isTree(t, `\(\)\(\)`, neither, cat(group(1, empty()), group(2, empty())))
	isTree(t, `\(a\)\10`, neither, cat(group(1, a), back(1), char('0')))
}

// TestAlternatives: P9.1, branches of nothing too, in groups too.
func TestAlternatives(t *testing.T) {
	a, b, c := char('a'), char('b'), char('c')
	isTree(t, `\|`, neither, alt(empty(), empty()))
	isTree(t, `\|\|`, neither, alt(empty(), empty(), empty()))
	isTree(t, `a\|b\|c`, neither, alt(a, b, c))
	isTree(t, `a\|\|c`, neither, alt(a, empty(), c))
	isTree(t, `\|a`, neither, alt(empty(), a))
	isTree(t, `a\|a`, neither, alt(a, a))
	isTree(t, `ab\|bc`, neither, alt(cat(a, b), cat(b, c)))
	isTree(t, `ab\|c*`, neither, alt(cat(a, b), star(c)))
	isTree(t, `^a\|b$`, neither, alt(cat(begin(), a), cat(b, end())))
	isTree(t, `^\|$`, neither, alt(begin(), end()))
	isTree(t, `a\|*`, neither, alt(a, char('*')))
	isTree(t, `\(\|\)`, neither, group(1, alt(empty(), empty())))
	isTree(t, `\(a\|b\)\|c`, neither, alt(group(1, alt(a, b)), c))
	isTree(t, `a\(b\|c\)`, neither, cat(a, group(1, alt(b, c))))
	isTree(t, `\(a\|\(b\|c\)\|a\)`, neither, group(1, alt(a, group(2, alt(b, c)), a)))
	isTree(t, `\(a\)\|\1`, neither, alt(group(1, a), back(1)))
	isTree(t, `\(\(a\)\|\2\)\|\1`, neither, alt(group(1, alt(group(2, a), back(2))), back(1)))
}

// TestRepeats: P9.1, each form, of each thing; the first one within the next.
func TestRepeats(t *testing.T) {
	a, b := char('a'), char('b')
	forms := map[string][2]int{"*": {0, -1}, `\+`: {1, -1}, `\?`: {0, 1}, `\{0\}`: {0, 0}, `\{7\}`: {7, 7}, `\{007,\}`: {7, -1}, `\{3,9\}`: {3, 9}, `\{255,255\}`: {255, 255}, `\{0,\}`: {0, -1}}
	for text, bounds := range forms {
		r := func(n api.Node) api.Node { return rep(n, bounds[0], bounds[1]) }
		isTree(t, "a"+text, neither, r(a))
		isTree(t, "[ab]"+text, neither, r(set('a', 'b')))
		isTree(t, "ba"+text+"b", neither, cat(b, r(a), b))
		isTree(t, `\(ba\)`+text, neither, r(group(1, cat(b, a))))
		isTree(t, `\(\)`+text+`\1`+text, neither, cat(r(group(1, empty())), r(back(1))))
		isTree(t, `\(b\|a`+text+`\)`, neither, group(1, alt(b, r(a))))
		isTree(t, "^a"+text+"$", neither, cat(begin(), r(a), end()))
		for other, more := range forms {
			isTree(t, "a"+text+other, neither, rep(r(a), more[0], more[1]))
			isTree(t, `\(a`+text+`\)`+other, neither, rep(group(1, r(a)), more[0], more[1]))
		}
	}
	isTree(t, `a*\+\?\{2,3\}`, neither, rep(rep(rep(star(a), 1, -1), 0, 1), 2, 3))
}

// TestNumbers: P9.1, groups are numbered by the order in which they begin.
func TestNumbers(t *testing.T) {
	a := char('a')
	isTree(t, `\(\(\)\(\)\)\(\)`, neither, cat(group(1, cat(group(2, empty()), group(3, empty()))), group(4, empty())))
	isTree(t, `\(\(\(a\)\)\)\1\2\3`, neither, cat(group(1, group(2, group(3, a))), back(1), back(2), back(3)))
	isTree(t, `\(a\)\|\(a\)\2\|\(a\)\1`, neither, alt(group(1, a), cat(group(2, a), back(2)), cat(group(3, a), back(1))))
	isTree(t, `\(\(a\)*\2\)*`, neither, star(group(1, cat(star(group(2, a)), back(2)))))
	want := cat()
	for i := range 30 {
		want.Kids = append(want.Kids, group(i+1, empty()))
	}
	isTree(t, strings.Repeat(`\(\)`, 30), neither, want)
}

// TestLexersErrors: P9.1, those of chapter 7, ahead of all others, wherever they show.
func TestLexersErrors(t *testing.T) {
	isWrongInAll(t, strings.Repeat("a", 2001), api.ErrLong, 0)
	isWrongInAll(t, `\)`+strings.Repeat("a", 2000), api.ErrLong, 0)
	many := strings.Repeat("*", 100)
	for _, ahead := range []string{"", "a", "a" + many, `\)`, `\(`, `\1`, `\(\1\)`, strings.Repeat(`\(\)`, 31), `\)\1` + strings.Repeat(`\(`, 40)} {
		n := len(ahead)
		isWrongInAll(t, ahead+`x\`, api.ErrTrail, n+1)
		isWrongInAll(t, ahead+`x\q\)`, api.ErrEscape, n+1)
		isWrongInAll(t, ahead+`[a`, api.ErrBracket, n)
		isWrongInAll(t, ahead+`[z-a]`, api.ErrRange, n+1)
		isWrongInAll(t, ahead+`[[:no:]]`, api.ErrClass, n+1)
		isWrongInAll(t, ahead+`x\{`, api.ErrBrace, n+1)
		isWrongInAll(t, ahead+`x\{3,2\}`, api.ErrBound, n+1)
		isWrongInAll(t, ahead+`\(\+`, api.ErrRepeat, n+2)
		isWrong(t, ahead+"\xff", chars, api.ErrChar, n)
		isWrong(t, ahead+"\xff", both, api.ErrChar, n)
	}
}

// TestGroupsErrors: P9.1, ErrClose, ErrBack, ErrMany and ErrOpen, each alone.
func TestGroupsErrors(t *testing.T) {
	isWrongInAll(t, `\)`, api.ErrClose, 0)
	isWrongInAll(t, `\(a\)b\)\(`, api.ErrClose, 6)
	isWrongInAll(t, `a\|\)`, api.ErrClose, 3)
	isWrongInAll(t, `$\)`, api.ErrClose, 1)
	isWrongInAll(t, `\(`, api.ErrOpen, 0)
	isWrongInAll(t, `a\(`, api.ErrOpen, 1)
	isWrongInAll(t, `a\(\(\(`, api.ErrOpen, 1)
	isWrongInAll(t, `\(a\)\(b\(c`, api.ErrOpen, 5)
	isWrongInAll(t, `\(a\)\(b\(c\)`, api.ErrOpen, 5)
	isWrongInAll(t, `\(a\|`, api.ErrOpen, 0)
	isWrongInAll(t, `\(\(\)\)\(\(\)`, api.ErrOpen, 8)
	isWrongInAll(t, `\1`, api.ErrBack, 0)
	isWrongInAll(t, `a\9`, api.ErrBack, 1)
	isWrongInAll(t, `\(a\)\2`, api.ErrBack, 5)
	isWrongInAll(t, `\(a\)\1\2`, api.ErrBack, 7)
	isWrongInAll(t, `\(\(a\)\1\)`, api.ErrBack, 7)
	isWrongInAll(t, `\(a\|\1\)`, api.ErrBack, 5)
	isWrongInAll(t, `\1\|\(a\)`, api.ErrBack, 0)
	isWrongInAll(t, `\(\(\)\2\)\3`, api.ErrBack, 10)
	isWrongInAll(t, strings.Repeat(`\(\)`, 31), api.ErrMany, 120)
	isWrongInAll(t, strings.Repeat(`\(\)`, 40), api.ErrMany, 120)
	isWrongInAll(t, strings.Repeat(`\(`, 31)+strings.Repeat(`\)`, 31), api.ErrMany, 60)
	isWrongInAll(t, "x"+strings.Repeat(`\(`, 15)+strings.Repeat(`\)`, 15)+strings.Repeat(`a\|\(`, 16)+strings.Repeat(`\)`, 16), api.ErrMany, 139)
}

// TestFirstError: P9.1, of several the one whose token comes first; ErrOpen behind all of these, ErrDeep and ErrMany at 0 last.
func TestFirstError(t *testing.T) {
	opens, pairs := strings.Repeat(`\(`, 31), strings.Repeat(`\(\)`, 30)
	stars, row := strings.Repeat("*", 60), strings.Repeat("a", 2000)
	isWrongInAll(t, `\)\1`, api.ErrClose, 0)
	isWrongInAll(t, `\1\)`, api.ErrBack, 0)
	isWrongInAll(t, `\(\)\)\2`, api.ErrClose, 4)
	isWrongInAll(t, `\)`+opens, api.ErrClose, 0)
	isWrongInAll(t, opens+`\1`, api.ErrMany, 60)
	isWrongInAll(t, pairs+`\)\(`, api.ErrClose, 120)
	isWrongInAll(t, pairs+`\(\)\)`, api.ErrMany, 120)
	isWrongInAll(t, `\(\1`, api.ErrBack, 2)
	isWrongInAll(t, `\(\(\)\)\)\(`, api.ErrClose, 8)
	isWrongInAll(t, `\(`+pairs, api.ErrMany, 118)
	isWrongInAll(t, opens, api.ErrMany, 60)
	isWrongInAll(t, "a"+stars+`\)`, api.ErrClose, 61)
	isWrongInAll(t, "a"+stars+`\1`, api.ErrBack, 61)
	isWrongInAll(t, "a"+stars+`\(`, api.ErrOpen, 61)
	isWrongInAll(t, "a"+stars+pairs+`\(`, api.ErrMany, 181)
	isWrongInAll(t, row[:1998]+`\)`, api.ErrClose, 1998)
	isWrongInAll(t, row[:1998]+`\(`, api.ErrOpen, 1998)
}

// TestDeep: P9.1 and P9.2, 40 deep and one more, by turns, groups, branches and all of them.
func TestDeep(t *testing.T) {
	stars := func(n int) string { return strings.Repeat("*", n) }
	within := func(n int, left, right string) string {
		return strings.Repeat(left, n) + "a" + strings.Repeat(right, n)
	}
	for _, x := range []struct {
		pattern string
		deep    int
	}{
		{"a" + stars(39), 40},
		{"a" + stars(40), 41},
		{"a" + stars(1999), 2000},
		{stars(40), 40},
		{stars(41), 41},
		{"ab" + stars(38), 40},
		{"ab" + stars(39), 41},
		{`a\|b` + stars(38), 40},
		{`a\|b` + stars(39), 41},
		{`a\|cb` + stars(37), 40},
		{`a\|cb` + stars(38), 41},
		{`\(a` + stars(38) + `\)`, 40},
		{`\(a` + stars(39) + `\)`, 41},
		{`\(\)` + stars(38), 40},
		{`\(\)` + stars(39), 41},
		{`\(\)\1` + stars(38), 40},
		{`\(\)\1` + stars(39), 41},
		{within(30, `\(`, `\)`), 31},
		{within(30, `\(`, `\)`) + stars(9), 40},
		{within(30, `\(`, `\)`) + stars(10), 41},
		{within(19, `\(`, `\)*`), 39},
		{within(20, `\(`, `\)*`), 41},
		{within(19, `b\(`, `\)`), 39},
		{within(20, `b\(`, `\)`), 41},
		{within(20, `\(b`, `\)`), 41},
		{within(20, `\(`, `\)b`), 41},
		{within(13, `\(b\|c`, `\)`), 40},
		{within(13, `\(b\|c`, `\)`) + "d", 41},
		{within(13, `\(b\|c`, `\)`) + "*", 41},
		{within(14, `\(b\|c`, `\)`), 43},
		{within(13, `\(`, `\|\)x`), 40},
		{within(30, `\(b\|c`, `\)`), 91},
	} {
		for _, mode := range modes() {
			if x.deep > 40 {
				isWrong(t, x.pattern, mode, api.ErrDeep, 0)
				continue
			}
			n, err := parse.Parse(x.pattern, mode)
			if err != nil || tree.Depth(n) != x.deep || tree.Right(n, mode) != api.OK {
				t.Errorf("Parse(%.60q, %v): %d deep, %v, %v; not %d deep", x.pattern, mode, tree.Depth(n), err, tree.Right(n, mode), x.deep)
			}
		}
	}
}

// TestMany: P9.1 and P9.2, 2000 nodes and one more.
func TestMany(t *testing.T) {
	as := strings.Repeat("a", 2000)
	for _, x := range []struct {
		pattern string
		nodes   int
	}{
		{as[:1998], 1999},
		{as[:1999], 2000},
		{as, 2001},
		{strings.Repeat("a*", 1000), 2001},
		{"a" + strings.Repeat("b*", 999), 2000},
		{"^" + as[:1998] + "$", 2001},
		{"^" + as[:1997] + "$", 2000},
		{as[:1998] + `\.`, 2000},
		{as[:1997] + "[a]", 1999},
		{`a\|` + as[:1997], 2000},
		{as[:1000] + `\|` + as[:998], 2001},
		{as[:1000] + `\|` + as[:997], 2000},
		{as[:998] + `\(` + as[:998] + `\)`, 1999},
		{"a" + strings.Repeat("*", 10) + as[:1989], 2001},
		{"a" + strings.Repeat("*", 38) + as[:1961], 2001},
	} {
		for _, mode := range modes() {
			if x.nodes > 2000 {
				isWrong(t, x.pattern, mode, api.ErrMany, 0)
				continue
			}
			n, err := parse.Parse(x.pattern, mode)
			if err != nil || tree.Count(n) != x.nodes || tree.Right(n, mode) != api.OK {
				t.Errorf("Parse(%.60q, %v): %d nodes, %v, %v; not %d", x.pattern, mode, tree.Count(n), err, tree.Right(n, mode), x.nodes)
			}
		}
	}
}

// TestDeepAndMany: P9.1, of a tree that is too deep and has too many nodes ErrDeep is told, wherever its deepest node stands.
func TestDeepAndMany(t *testing.T) {
	as, stars := strings.Repeat("a", 1960), strings.Repeat("*", 39)
	isWrongInAll(t, "a"+stars+as, api.ErrDeep, 0)
	isWrongInAll(t, as+"a"+stars, api.ErrDeep, 0)
	isWrongInAll(t, as[:980]+"a"+stars+as[980:], api.ErrDeep, 0)
	isWrongInAll(t, "aa"+strings.Repeat("*", 1998), api.ErrDeep, 0)
	isWrongInAll(t, as+"aa"+stars[1:], api.ErrMany, 0)
}
