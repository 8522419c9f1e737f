package compile_test

import (
	"slices"
	"strings"
	"testing"

	"dredge/api"
	"dredge/code"
	"dredge/compile"
	"dredge/measure"
	"dredge/tree"
)

// read is the program of some lines.
func read(t *testing.T, lines ...string) api.Program {
	t.Helper()
	p, err := code.Read(strings.Join(lines, "\n") + "\n")
	if err != nil {
		t.Fatalf("Read(%q): %v", lines, err)
	}
	return p
}

// TestExamples: P15.1 to P15.3, the chapter's table: what they answer matches as the programs there, in all short lines.
func TestExamples(t *testing.T) {
	plain, counted, turned := compilers()[0], compilers()[1], compilers()[2]
	for _, c := range []struct {
		call     compiler
		pattern  string
		mode     api.Mode
		program  []string
		alphabet []string
	}{
		{plain, `a\{2\}`, neither, []string{"program 0 0", "byte 61", "byte 61", "match"}, []string{"a", "b"}},
		{counted, `\(a\)\1`, neither, []string{"program 1 0", "open 0", "byte 61", "close 0", "back 0", "match"}, []string{"a", "b"}},
		{plain, `^a$`, fold, []string{"program 0 0 fold", "begin", "byte 41,61", "end", "match"}, []string{"a", "A", "b"}},
		{turned, `^ab`, neither, []string{"program 0 0", "byte 62", "byte 61", "end", "match"}, []string{"a", "b"}},
		{plain, `[é]`, chars, []string{"program 0 0", "byte c3", "byte a9", "match"}, []string{"\xc3", "\xa9", "a"}},
	} {
		p, want := programOf(t, c.call, of(t, c.pattern, c.mode), c.mode), read(t, c.program...)
		if p.Groups != want.Groups || p.Fold != want.Fold {
			t.Errorf("%s of %s: %s", c.call.name, c.pattern, textOf(p))
		}
		for _, line := range linesOf(c.alphabet, 4) {
			for at := range len(line) + 1 {
				if l, k := played(p, line, at), played(want, line, at); !slices.Equal(l, k) {
					t.Errorf("%s of %s in %q at %d: %v, not %v", c.call.name, c.pattern, line, at, l, k)
				}
			}
		}
	}
	if l := played(programOf(t, turned, of(t, `^ab`, neither), neither), "ba", 0); !slices.Equal(l, []int{2}) {
		t.Errorf("Turned of ^ab in ba: %v", l)
	}
	refused(t, of(t, `\(a\)\1`, neither), neither, api.ErrRefs, api.OK)
	refused(t, of(t, `\(a\{200\}\)\{200\}`, neither), neither, api.ErrSize, api.ErrSize)
	refused(t, set(98, 97), neither, api.ErrTree, api.ErrTree)
}

// refused: what Plain and Turned tell of a tree, and what Counted does; beside an error there is no program.
func refused(t *testing.T, n api.Node, mode api.Mode, free, counted api.Errno) {
	t.Helper()
	for _, c := range compilers() {
		want := free
		if c.name == "Counted" {
			want = counted
		}
		p, e := c.of(n, mode)
		if e != want {
			t.Errorf("%s of %s, %v: %v, not %v", c.name, short(n), mode, e, want)
		}
		if e != api.OK && !code.Same(p, api.Program{}) {
			t.Errorf("%s of %s, %v: %v, and %s", c.name, short(n), mode, e, short(p))
		}
	}
}

// TestWrongTrees: P15.1 to P15.3, the error of chapter 8's Right goes ahead of all others.
func TestWrongTrees(t *testing.T) {
	large := rep(rep(char('-'), 255, 255), 255, 255)
	for _, n := range []api.Node{
		{}, {Kind: 10}, {Kind: -1}, {Kind: api.NSet, N: 1}, {Kind: api.NRep}, set(98, 97), set(-1, 5), set(0, api.MaxRune),
		set(0, 5, 6, 9), set(1, 256), char('a'), cat(char('-')), alt(char('-')), alt(alt(begin(), end()), end()), cat(char('-'), begin()),
		rep(begin(), 0, 1), rep(char('-'), 2, 1), rep(char('-'), 0, 256), rep(char('-'), -1, 1), rep(char('-'), 0, -2), group(2, empty()),
		cat(back(1), group(1, empty())), group(1, back(1)), cat(group(1, empty()), back(10)), back(0), back(1),
		cat(group(1, empty()), back(1), back(2)), cat(large, back(1)), cat(large, group(2, empty())),
		cat(many(char('-'), 1999)...), cat(many(char('-'), 2000)...), around(char('-'), 40, func(n api.Node) api.Node { return rep(n, 1, 1) }),
		endless(cat(char('-'), char('-'))), endless(group(1, empty())), endless(star(char('-'))),
	} {
		for _, mode := range modes() {
			e := tree.Right(n, mode)
			if e == api.OK {
				compiled(t, n, mode)
				continue
			}
			refused(t, n, mode, e, e)
		}
	}
	next := numbers(5)
	spoilt := 0
	for i := range 4000 {
		mk := &maker{next: next, mode: modes()[i%4], refs: true}
		n := mk.pattern(1)
		spoil(&n, next)
		if e := tree.Right(n, mk.mode); e != api.OK {
			refused(t, n, mk.mode, e, e)
			spoilt++
		}
	}
	if spoilt < 1000 {
		t.Errorf("only %d trees are wrong", spoilt)
	}
}

// compiled: what all calls tell of a right tree.
func compiled(t *testing.T, n api.Node, mode api.Mode) {
	t.Helper()
	size, free := measure.Size(n, mode), len(measure.Used(n, mode)) == 0
	switch {
	case size > api.MaxSize && free:
		refused(t, n, mode, api.ErrSize, api.ErrSize)
	case size > api.MaxSize:
		refused(t, n, mode, api.ErrRefs, api.ErrSize)
	case free:
		refused(t, n, mode, api.OK, api.OK)
	default:
		refused(t, n, mode, api.ErrRefs, api.OK)
	}
	for _, c := range compilers() {
		if size <= api.MaxSize && (free || c.name == "Counted") {
			programOf(t, c, n, mode)
		}
	}
}

// spoil changes a number in a tree.
func spoil(n *api.Node, next func(int) int) {
	l := spots(n)
	s := l[next(len(l))]
	by := []int{-1, 1, -300, 300}[next(4)]
	switch next(5) {
	case 0:
		s.Kind += by
	case 1:
		s.N += by
	case 2:
		s.Min += by
	case 3:
		s.Max += by
	default:
		if len(s.Ranges) > 0 {
			s.Ranges[0].Lo += by * 1000
		}
	}
}

// TestRefs: P15.1 and P15.3, ErrRefs goes ahead of ErrSize; Counted has no groups but those that are referred to.
func TestRefs(t *testing.T) {
	large := rep(rep(char('-'), 255, 255), 255, 255)
	for _, mode := range modes() {
		compiled(t, cat(group(1, empty()), back(1), large), mode)
		compiled(t, cat(large, group(1, empty()), back(1)), mode)
		compiled(t, rep(group(1, cat(group(2, large), back(2))), 0, 0), mode)
		compiled(t, cat(rep(group(1, char('-')), 0, 0), back(1)), mode)
	}
	for pattern, groups := range map[string]int{
		`\(a\)\(b\)\(c\)`: 0, `\(a\)\(b\)\(c\)\2`: 1, `\(a\)\(b\)\(c\)\2\2\3\2`: 2, `\(\(\(a\)\)\)\{3\}\3\1`: 2,
		`\(a\)\(a\)\(a\)\(a\)\(a\)\(a\)\(a\)\(a\)\(a\)\9\8\7\6\5\4\3\2\1`: 9,
	} {
		p := programOf(t, compilers()[1], of(t, pattern, neither), neither)
		if p.Groups > groups {
			t.Errorf("%s: %d groups", pattern, p.Groups)
		}
	}
}

// found is whether a tree's Counted program matches the whole of a line.
func found(t *testing.T, pattern, line string, mode api.Mode) bool {
	t.Helper()
	return slices.Contains(played(programOf(t, compilers()[1], of(t, pattern, mode), mode), line, 0), len(line))
}

// TestNine: P15.2, groups by their own numbers, up to the ninth of many.
func TestNine(t *testing.T) {
	groups := `\(a\)\(b\)\(c\)\(d\)\(e\)\(f\)\(g\)\(h\)\(i\)\(j\)`
	for i := range 9 {
		letter := "abcdefghi"[i : i+1]
		pattern := groups + `\` + string(rune('1'+i))
		if !found(t, pattern, "abcdefghij"+letter, neither) || found(t, pattern, "abcdefghijj", neither) {
			t.Errorf("%s", pattern)
		}
	}
	for line, want := range map[string]bool{"abcdefghijihgfedcba": true, "abcdefghijabcdefghi": false, "abcdefghijihgfedcb": false} {
		if got := found(t, groups+`\9\8\7\6\5\4\3\2\1`, line, neither); got != want {
			t.Errorf("all nine in %s: %v", line, got)
		}
	}
	for line, want := range map[string]bool{"aBxBAbAX": false, "aBxAbXBA": false, "abxABXab": true, "aBxAbXAb": true, "abxabxaB": true} {
		if got := found(t, `\(\(a\)\(b\)x\)\1\2\3`, line, fold); got != want {
			t.Errorf("fold, in %s: %v", line, got)
		}
		if got := found(t, `\(\(a\)\(b\)x\)\1\2\3`, line, neither); got {
			t.Errorf("neither, in %s: %v", line, got)
		}
	}
	for line, want := range map[string]bool{"éé": true, "éÉ": false, "é\xc3": false, "aA": true, "aé": false} {
		if got := found(t, `\(.\)\1`, line, both); got != want {
			t.Errorf("both, in %q: %v", line, got)
		}
	}
}

// TestBounds: P15.1 to P15.3, turns up to the greatest bound, in lines with one more and one less.
func TestBounds(t *testing.T) {
	for _, b := range [][2]int{{0, 255}, {254, 255}, {255, 255}, {255, api.Infinite}, {200, 200}, {1, 100}, {127, 128}} {
		n := rep(char('a'), b[0], b[1])
		for _, length := range []int{0, 1, 99, 100, 101, 126, 127, 128, 129, 199, 200, 201, 253, 254, 255, 256, 300} {
			var want []int
			for k := b[0]; k <= length && (b[1] == api.Infinite || k <= b[1]); k++ {
				want = append(want, k)
			}
			for _, c := range compilers() {
				if l := played(programOf(t, c, n, neither), strings.Repeat("a", length), 0); !slices.Equal(l, want) {
					t.Errorf("%s of a from %d to %d times in %d: %v", c.name, b[0], b[1], length, l)
				}
			}
		}
	}
	twice := cat(rep(group(1, rep(char('a'), 0, 1)), 30, 60), char('b'), back(1))
	for a, ends := range map[int][]int{0: {1}, 1: {2, 3}, 29: {30, 31}, 30: {32}, 59: {61}, 60: {62}, 61: nil} {
		p := programOf(t, compilers()[1], twice, neither)
		if l := played(p, strings.Repeat("a", a)+"baa", 0); !slices.Equal(l, ends) {
			t.Errorf("%d turns: %v", a, l)
		}
	}
}

// TestSizes: P15.1 to P15.3, the greatest trees: of the size 10000, and of one more; others near it.
func TestSizes(t *testing.T) {
	most := append(many(rep(char('-'), 255, 255), 13), rep(char('-'), 8, 8), rep(char('-'), 3, 3))
	for _, mode := range modes() {
		fits := cat(append(slices.Clone(most), group(1, alt(char('-'), char('-'))))...)
		refused(t, fits, mode, api.OK, api.OK)
		refused(t, cat(append(slices.Clone(most), many(char('-'), 4)...)...), mode, api.ErrSize, api.ErrSize)
		for _, n := range []api.Node{
			fits,
			rep(rep(char('-'), 11, 11), 255, 255),
			rep(rep(rep(char('-'), 11, 11), 142, 142), 2, 2),
			rep(rep(group(1, empty()), 0, 36), 36, 54),
			rep(group(1, alt(many(char('-'), 22)...)), 200, 208),
			rep(group(1, cat(many(star(char('-')), 22)...)), 0, 108),
			rep(rep(group(1, alt(many(empty(), 12)...)), 1, 12), 0, 28),
			rep(rep(rep(rep(char('-'), 2, api.Infinite), 4, api.Infinite), 8, api.Infinite), 15, api.Infinite),
			cat(rep(group(1, rep(char('-'), 36, 36)), 85, 85), rep(group(2, rep(char('-'), 36, 36)), 3, 3), back(1)),
		} {
			compiled(t, n, mode)
		}
	}
	every := set(0, 0xd7ff, 0xe000, api.MaxRune)
	compiled(t, rep(every, 255, 255), chars)
	compiled(t, rep(every, 0, 255), both)
	compiled(t, rep(rep(every, 0, 1), 255, 255), chars)
	compiled(t, cat(many(every, 303)...), chars)
	compiled(t, cat(many(every, 304)...), chars)
}

// TestDeep: P15.2, as many counters as there may be around each other; many behind each other.
func TestDeep(t *testing.T) {
	for _, b := range [][2]int{{1, 1}, {0, api.Infinite}, {1, api.Infinite}, {0, 1}, {0, 0}} {
		deep := around(char('-'), 39, func(n api.Node) api.Node { return rep(n, b[0], b[1]) })
		compiled(t, deep, neither)
		deep = cat(group(1, star(char('a'))), around(rep(back(1), 0, 2), 36, func(n api.Node) api.Node { return rep(n, b[0], b[1]) }))
		compiled(t, deep, neither)
		deep = cat(around(group(1, star(char('a'))), 36, func(n api.Node) api.Node { return rep(n, b[0], b[1]) }), back(1))
		compiled(t, deep, neither)
	}
	// What is taken twice, and again, is written out too often.
	compiled(t, around(char('-'), 39, func(n api.Node) api.Node { return rep(n, 0, 2) }), neither)
	compiled(t, cat(many(rep(char('-'), 2, 3), 99)...), neither)
	compiled(t, cat(many(rep(rep(char('-'), 2, 3), 2, 3), 99)...), neither)
}

// TestOneFromBehind: P15.4, Plain and Counted of a tree without NBack match the same, and so does Turned, if it reads the same from behind.
func TestOneFromBehind(t *testing.T) {
	for _, pattern := range []string{`a*`, `a`, `\(a\|b\)*`, `aba`, `a*ba*`, `\(aa\|bab\|\)*`, `[ab]\{2,3\}`, `\(^b$\|a\)*`} {
		n := of(t, pattern, neither)
		var programs []api.Program
		for _, c := range compilers() {
			programs = append(programs, programOf(t, c, n, neither))
		}
		for _, line := range linesOf([]string{"a", "b", "c"}, 5) {
			for at := range len(line) + 1 {
				l, k, m := played(programs[0], line, at), played(programs[1], line, at), played(programs[2], line, at)
				if !slices.Equal(l, k) || !slices.Equal(l, m) {
					t.Fatalf("%s in %q at %d: %v, %v, %v", pattern, line, at, l, k, m)
				}
			}
		}
	}
}

// TestMemory: P3, trees are not written into, nor what stands behind their lists; programs share no memory; P4, the same tree gives the same program.
func TestMemory(t *testing.T) {
	next := numbers(23)
	for i := range 400 {
		mk := &maker{next: next, mode: modes()[i%4], refs: i%2 == 0}
		n := roomy(mk.pattern(1))
		before := roomy(n)
		for _, c := range compilers() {
			p, e := c.of(n, mk.mode)
			if e != api.OK {
				continue
			}
			q, _ := c.of(n, mk.mode)
			if !code.Same(p, q) {
				t.Fatalf("%s of %s, twice: %s and %s", c.name, short(n), short(p), short(q))
			}
			all := p.Insts[:cap(p.Insts)]
			for i := range all {
				all[i] = api.Inst{Op: api.OpJump}
			}
			if r, _ := c.of(n, mk.mode); !code.Same(q, r) {
				t.Fatalf("%s of %s shares its memory", c.name, short(n))
			}
		}
		if !sameRoom(n, before) {
			t.Fatalf("%s was written into: now it is %s", short(before), short(n))
		}
	}
}

// roomy is a copy of a tree whose lists have something behind their ends.
func roomy(n api.Node) api.Node {
	l := append(slices.Clone(n.Ranges), api.Range{Lo: -7, Hi: -7}, api.Range{Lo: -8, Hi: -8})
	kids := append(slices.Clone(n.Kids), api.Node{Kind: -7}, api.Node{Kind: -8})
	for i := range n.Kids {
		kids[i] = roomy(n.Kids[i])
	}
	n.Ranges, n.Kids = l[:len(l)-2], kids[:len(kids)-2]
	return n
}

// sameRoom tells whether two such trees are the same, with what stands behind the ends of their lists.
func sameRoom(a, b api.Node) bool {
	i, j := len(a.Ranges)+2, len(a.Kids)+2
	if a.Kind != b.Kind || a.N != b.N || a.Min != b.Min || a.Max != b.Max || len(a.Ranges) != len(b.Ranges) || len(a.Kids) != len(b.Kids) {
		return false
	}
	behind := func(n api.Node) []int { return []int{n.Kids[:j][j-2].Kind, n.Kids[:j][j-1].Kind} }
	return slices.Equal(a.Ranges[:i], b.Ranges[:i]) && slices.Equal(behind(a), behind(b)) && slices.EqualFunc(a.Kids, b.Kids, sameRoom)
}

// TestFew: no promise asks for these, but who plays a program has less to do: characters that differ in one byte alone are one row; nothing is counted where no number is asked; what a group had in an earlier turn, and how many turns there were in a loop that has been left, are forgotten.
func TestFew(t *testing.T) {
	for _, c := range []struct {
		call            compiler
		pattern         string
		mode            api.Mode
		insts, counters int
		line            string
		mostConfigs     int
	}{
		{compilers()[0], `[äöüÄ-Ö]`, chars, 3, 0, "ä", 3},
		{compilers()[0], `[^a]`, chars, 39, 0, "ä", 20},
		{compilers()[1], `\(a*\)b\+\(c\{0,1\}\)\{1\}\1\2`, neither, 15, 0, "abca", 25},
		{compilers()[1], `\(ab\)*\(b\)\{0,1\}\1\2`, neither, 15, 0, "abbabb", 30},
		{compilers()[1], `\(a\)\(b*\)*\1`, neither, 11, 0, "abba", 30},
		{compilers()[1], `a\{200,\}`, neither, 5, 1, "a", 10},
		{compilers()[1], `\(a*\)*\1`, neither, 11, 1, strings.Repeat("a", 30), 45000},
		{compilers()[1], `[ab]\{0,5\}[ab]\{0,5\}[ab]\{0,5\}`, neither, 13, 1, strings.Repeat("a", 15), 500},
		{compilers()[1], `\(\(a\{2\}\)\{2\}\(b\{2\}\)\{2\}\)\{2\}`, neither, 18, 3, "aaaabbbbaaaabbbb", 100},
	} {
		p := programOf(t, c.call, of(t, c.pattern, c.mode), c.mode)
		if len(p.Insts) > c.insts || p.Counters > c.counters {
			t.Errorf("%s of %s: %d instructions, %d counters", c.call.name, c.pattern, len(p.Insts), p.Counters)
		}
		if configs := len(playedOut(p, c.line, 0).seen); configs > c.mostConfigs {
			t.Errorf("%s of %s: %d configurations", c.call.name, c.pattern, configs)
		}
	}
}

// TestModes: P15.1, a mode is asked for a tree's sets: a number above 127 is a byte, or a character of several.
func TestModes(t *testing.T) {
	for _, c := range []struct {
		mode api.Mode
		line string
		ends []int
	}{{neither, "\xe9", []int{1}}, {chars, "\xe9", nil}, {chars, "é", []int{2}}, {neither, "é", nil}} {
		p, e := compile.Plain(char(0xe9), c.mode)
		if l := played(p, c.line, 0); e != api.OK || !slices.Equal(l, c.ends) {
			t.Errorf("%v, %q: %v, %v", c.mode, c.line, l, e)
		}
	}
}
