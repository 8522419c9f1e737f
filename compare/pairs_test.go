package compare_test

import (
	"fmt"
	"slices"
	"strings"
	"testing"

	"dredge/api"
	"dredge/compare"
)

// TestExamplesOfTwo: P22.3, the chapter's examples of two trees, and the document's.
func TestExamplesOfTwo(t *testing.T) {
	at := func(pattern string) api.Node { return of(t, pattern, neither) }
	within(t, at(`ab*`), at(`a[bc]*`), neither)
	notWithin(t, at(`a[bc]*`), at(`ab*`), neither, "ac")
	same(t, at(`aa*`), at(`a\+`), neither)
	notSame(t, at(`a*`), at(`a\+`), neither, "")
	within(t, at(`ab*`), at(`a[b]*`), neither)
	notWithin(t, at(`a*`), at(`a\+`), neither, "")
	within(t, at(`a\+`), at(`a*`), neither)
}

// TestPlainSame: P22.3, patterns that are the same, whatever they look like.
func TestPlainSame(t *testing.T) {
	for a, b := range map[string]string{
		`a\{2,4\}`: `aa\(a\{0,1\}\)\{2\}`, `\(a*b*\)*`: `[ab]*`, `\(a\|b\)*`: `\(a*b\)*a*`, `a\{0\}b`: `b`, `^a$`: `a`, `\(^\)*a\($\)*`: `a`, `\(a$\)*`: `a\{0,1\}`,
		`\(a\|ab\)\(c\|bc\)`: `abc\|ac\|abbc`, `\(aa\)*\|\(aaa\)*`: `\(a\{6\}\)*\(a\{2\}\|a\{3\}\|a\{4\}\|\)`, `\(^a\|b\)*`: `a\{0,1\}b*`, `\(ab\)*a`: `a\(ba\)*`, `x\|\(^\)x`: `x`, `\(\)*`: ``, `[^a]`: `[^a]$`,
	} {
		same(t, of(t, a, neither), of(t, b, neither), neither)
		within(t, of(t, a, neither), of(t, b, neither), neither)
		within(t, of(t, b, neither), of(t, a, neither), neither)
	}
	same(t, of(t, `[a-z]`, fold), of(t, `[A-Z]`, fold), fold)
	same(t, of(t, `ab`, both), of(t, `AB`, both), both)
	notSame(t, of(t, `é`, both), of(t, `É`, both), both, "É")
	same(t, of(t, `[é-ë]`, chars), of(t, `é\|ê\|ë`, chars), chars)
	same(t, of(t, `.`, chars), alt(set(0, 127), set(0x80, 0xd7ff), set(0xe000, api.MaxRune)), chars)
	notSame(t, of(t, `.`, neither), of(t, `[^z]`, neither), neither, "z")
	same(t, set(), cat(char('a'), group(1, begin())), neither)
	same(t, set(), set(), chars)
}

// TestPlainNotSame: P22.3, which line is told: the least one of all, of those of the one tree and of the other one.
func TestPlainNotSame(t *testing.T) {
	for _, l := range [][4]string{ // two patterns, what the first one alone has, what the second one alone has
		{`b\|cc`, `a\|cc`, "b", "a"}, {`aa\|b`, `aa`, "b", ""}, {`ab*`, `ab\{0,3\}`, "abbbb", ""}, {`[a-c]*`, `[ac]*`, "b", ""}, {`a\{2\}`, `a\{3\}`, "aa", "aaa"}, {`aaaa\|b\{5\}`, `b\{5\}\|ca`, "aaaa", "ca"},
		{`.`, `[^ab]`, "a", ""}, {`[^a]`, `[^b]`, "b", "a"}, {`.*`, `.\{2,\}`, "-", ""}, {`^`, `a`, "-", "a"}, {`\(a\{3\}\)*`, `\(a\{5\}\)*`, "aaa", "aaaaa"}, {`x*`, `\(xx\)*`, "x", ""},
	} {
		a, b := of(t, l[0], neither), of(t, l[1], neither)
		line := l[2]
		if line == "-" {
			line = ""
		}
		notWithin(t, a, b, neither, line)
		if l[3] == "" {
			within(t, b, a, neither)
			notSame(t, a, b, neither, line)
			continue
		}
		notWithin(t, b, a, neither, l[3])
		if less(l[3], line) {
			line = l[3]
		}
		notSame(t, a, b, neither, line)
	}
}

// TestTwoByBytes: P22.3, the line with less bytes is told, not the one with less characters.
func TestTwoByBytes(t *testing.T) {
	at := func(pattern string) api.Node { return of(t, pattern, chars) }
	notSame(t, at(`€`), at(`ab`), chars, "ab")
	notSame(t, at(`€`), at(`éa`), chars, "éa")
	notSame(t, at(`€`), at(`aé`), chars, "aé")
	notSame(t, at(`😀`), at(`aaaaa`), chars, "😀")
	notWithin(t, at(`[é€]*`), at(`é*`), chars, "€")
	notWithin(t, at(`😀a\|ééa\|aa`), at(`aa`), chars, "ééa")
	notWithin(t, at(`x[^a]`), at(`x[^é]`), chars, "xé")
	notWithin(t, at(`.`), at(`[^é]`), chars, "é")
	notWithin(t, at(`.*`), at(`[^😀]*`), chars, "😀")
	notWithin(t, at(`\(é\|aaa\)*`), at(`\(é\|aaa\)\{0,2\}`), chars, "ééé")
	notWithin(t, at(`\(😀\|aa\)*`), at(`\(😀\|aa\)\{0,1\}`), chars, "aaaa")
	notWithin(t, of(t, `.`, neither), of(t, `[^é]`, neither), neither, "\xa9")
}

// holds holds what is told of two trees against which lines of some are in the language of each; they are all that have at most so many bytes. It notes what there was.
func holds(t *testing.T, a, b api.Node, inA, inB []bool, mode api.Mode, readings []reading, most int, found map[string]int) {
	t.Helper()
	in, inLine, e := compare.Within(a, b, mode)
	is, isLine, f := compare.Same(a, b, mode)
	if e != api.OK || f != api.OK {
		t.Fatalf("Within, Same of %s and %s, %v: %v, %v", brief(a), brief(b), mode, e, f)
	}
	notIn, notSame := -1, -1
	for i := range readings {
		if notIn < 0 && inA[i] && !inB[i] {
			notIn = i
		}
		if notSame < 0 && inA[i] != inB[i] {
			notSame = i
		}
	}
	found["within, "+kindOf(t, a, b, mode, readings, most, notIn, in, inLine)]++
	found["same, "+kindOf(t, a, b, mode, readings, most, notSame, is, isLine)]++
	if !in && !readingOf(inLine, mode).isIn(a) {
		t.Fatalf("Within of %s and %s, %v: %q is not in the first one", brief(a), brief(b), mode, short(inLine))
	}
}

// kindOf holds an answer against the first line of all short ones that is sought (below 0: none).
func kindOf(t *testing.T, a, b api.Node, mode api.Mode, readings []reading, most, first int, yes bool, line string) string {
	t.Helper()
	if first >= 0 {
		if yes || line != readings[first].line {
			t.Fatalf("of %s and %s, %v: %v, %q, want %q", brief(a), brief(b), mode, yes, short(line), readings[first].line)
		}
		return "short"
	}
	if yes {
		if line != "" {
			t.Fatalf("of %s and %s, %v: true, and %q", brief(a), brief(b), mode, short(line))
		}
		return "yes"
	}
	if r := readingOf(line, mode); len(line) <= most || r.isIn(a) == r.isIn(b) {
		t.Fatalf("of %s and %s, %v: %q", brief(a), brief(b), mode, short(line))
	}
	return "long"
}

// holdsAll holds what is told of each two trees of some.
func holdsAll(t *testing.T, l []api.Node, mode api.Mode, readings []reading, most int, found map[string]int) {
	t.Helper()
	var languages [][]bool
	for _, n := range l {
		languages = append(languages, language(n, readings))
	}
	for i, a := range l {
		for j, b := range l {
			holds(t, a, b, languages[i], languages[j], mode, readings, most, found)
		}
	}
}

// TestTwo: P22.3, of made trees, against all lines of few bytes.
func TestTwo(t *testing.T) {
	t.Parallel()
	found := map[string]int{}
	for _, mode := range modes() {
		holdsAll(t, made(3, pool(mode), 60), mode, readingsOf(linesOf(letters(mode), 4), mode), 4, found)
	}
	enough(t, found, 20, "within, short", "within, long", "within, yes", "same, short", "same, long", "same, yes")
}

// TestSmallTwo: P22.3, of all small trees.
func TestSmallTwo(t *testing.T) {
	t.Parallel()
	found := map[string]int{}
	holdsAll(t, treesOf(3), neither, readingsOf(linesOf([]string{"\x00", "a", "b"}, 5), neither), 5, found)
	enough(t, found, 20, "within, short", "within, yes", "same, short", "same, yes")
}

// TestOneLetter: P22.3, of trees with one letter: all lines that may be in their languages, up to many bytes.
func TestOneLetter(t *testing.T) {
	t.Parallel()
	found := map[string]int{}
	var readings []reading
	for bytes := range 41 {
		readings = append(readings, readingOf(strings.Repeat("a", bytes), neither))
	}
	l := made(4, [][]int{{'a', 'a'}}, 60)
	for _, pattern := range []string{`\(a\{2\}\)*`, `\(a\{3\}\)*`, `\(a\{4\}\)*`, `\(a\{5\}\)*`, `\(a\{7\}\)*`, `\(aaa\|a\{5\}\)*`, `\(a\{4\}\|a\{7\}\)*`, `a\{0,9\}\|\(a\{3\}\)*`, `a\{20\}a*`, `a\{19,\}`, `\(a\{5\}\|a\{6\}\)*`, `a\{3,30\}`} {
		l = append(l, of(t, pattern, neither))
	}
	holdsAll(t, l, neither, readings, 40, found)
	enough(t, found, 20, "within, short", "within, yes", "same, short", "same, yes")
}

// TestWideLetters: P22.3, of trees with characters of one byte up to four.
func TestWideLetters(t *testing.T) {
	t.Parallel()
	found := map[string]int{}
	classes := [][]int{{'a', 'a'}, {0x20ac, 0x20ac}, {0xe9, 0xe9}, {0x1f600, 0x1f600}, {'a', 'a', 0x1f600, 0x1f600}, {0xe9, 0xe9, 0x20ac, 0x20ac}}
	readings := readingsOf(linesOf([]string{"a", "é", "€", "😀"}, 9), chars)
	holdsAll(t, made(5, classes, 70), chars, readings, 9, found)
	enough(t, found, 20, "within, short", "within, yes", "same, short", "same, yes")
}

// leastOf is the least line that is sought, of all lines there are: each one that leads to two sets together that no less one has led to is gone on from.
func leastOf(a, b allSets, letters []string, sought func(a, b int) bool) (string, bool) {
	type at struct {
		line string
		a, b int
	}
	waiting := []at{{}}
	known := map[[2]int]int{}
	for len(waiting) > 0 {
		x := waiting[0]
		waiting = waiting[1:]
		known[[2]int{x.a, x.b}]++
		if known[[2]int{x.a, x.b}] > 1 {
			continue
		}
		if sought(x.a, x.b) {
			return x.line, true
		}
		for i, letter := range letters {
			next := at{x.line + letter, a.moves[x.a][i], b.moves[x.b][i]}
			place, _ := slices.BinarySearchFunc(waiting, next, func(x, y at) int { return lessFirst(x.line, y.line) })
			waiting = slices.Insert(waiting, place, next)
		}
	}
	return "", false
}

// TestTwoExactly: P22.3, of made trees, against the sets that the chapter tells of: whether no line at all is sought, and the least one, however long.
func TestTwoExactly(t *testing.T) {
	t.Parallel()
	found := map[string]int{}
	for _, mode := range modes() {
		letters := letters(mode)
		var trees []api.Node
		var sets []allSets
		for _, n := range made(6, pool(mode), 250) {
			if s, is := setsOf(n, mode, letters, 40); is && len(s.lines) > 4 {
				trees, sets = append(trees, n), append(sets, s)
			}
		}
		for i, a := range trees {
			for j := max(0, i-4); j <= i; j++ {
				b, x, y := trees[j], sets[i], sets[j]
				line, is := leastOf(x, y, letters, func(p, q int) bool { return x.lines[p].isIn(a) && !y.lines[q].isIn(b) })
				if is {
					notWithin(t, a, b, mode, line)
				} else {
					within(t, a, b, mode)
				}
				found[fmt.Sprint("within, ", is, ", long: ", len(line) > 4)]++
				line, is = leastOf(x, y, letters, func(p, q int) bool { return x.lines[p].isIn(a) != y.lines[q].isIn(b) })
				if is {
					notSame(t, a, b, mode, line)
				} else {
					same(t, a, b, mode)
				}
			}
		}
	}
	enough(t, found, 20, "within, true, long: true", "within, true, long: false", "within, false, long: false")
}
