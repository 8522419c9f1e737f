package compare_test

import (
	"slices"
	"strings"
	"testing"

	"dredge/api"
	"dredge/compare"
)

// TestExamplesAlone: P22.2, the chapter's examples of one tree.
func TestExamplesAlone(t *testing.T) {
	least(t, of(t, `a$b`, neither), neither, "a$b", true)
	least(t, set(), neither, "", false)
	least(t, of(t, `a*b`, neither), neither, "b", true)
	least(t, of(t, `\(^a\)b\{2\}`, neither), neither, "abb", true)
	for pattern, want := range map[string]int{`a*`: 2, `ab`: 4, ``: 2, `.*`: 1, `a\{255\}\{7\}`: 1787} {
		states(t, of(t, pattern, neither), neither, want)
	}
}

// least line and number of some patterns.
type told struct {
	pattern string
	mode    api.Mode
	least   string
	is      bool
	states  int
}

// TestPlainAlone: P22.2, of patterns of all kinds.
func TestPlainAlone(t *testing.T) {
	for _, w := range []told{
		{`a`, neither, "a", true, 3}, {`^a$`, neither, "a", true, 3}, {`^`, neither, "", true, 2}, {`$`, neither, "", true, 2}, {`^$`, neither, "", true, 2},
		{`\(a\|b\)*a[ab]\{3\}`, neither, "aaaa", true, 17},
		{`a\{0\}`, neither, "", true, 2}, {`a\{3\}`, neither, "aaa", true, 5}, {`a\{2,4\}`, neither, "aa", true, 6}, {`a\{2,\}`, neither, "aa", true, 4}, {`a\{0,1\}`, neither, "", true, 3},
		{`\(aa\)*`, neither, "", true, 3}, {`\(aa\|aaa\)*`, neither, "", true, 4}, {`\(aa\|aaa\)\+`, neither, "aa", true, 4},
		{`b\|aa\|ab\|a`, neither, "a", true, 4}, {`bb\|ba\|c`, neither, "c", true, 4},
		{`.`, neither, "\x00", true, 3}, {`[^a]*`, neither, "", true, 2}, {`[b-z]x*`, neither, "b", true, 3},
		{`.`, chars, "\x00", true, 3}, {`.*`, chars, "", true, 1}, {`[^a]*`, chars, "", true, 2},
		{`é`, chars, "é", true, 3}, {`é`, neither, "é", true, 4},
		{`a`, fold, "A", true, 3}, {`[b-c]`, fold, "B", true, 3}, {`ab`, both, "AB", true, 4}, {`é`, both, "é", true, 3},
		{`\(a\|^\)b`, neither, "b", true, 4}, {`\(a\|$\)b`, neither, "ab", true, 4}, {`\(a$\|b\)c`, neither, "bc", true, 4},
		{`\(^a\)\{2\}`, neither, "", false, 1}, {`\(a$\)\{2\}`, neither, "", false, 1}, {`\($\)\(^\)`, neither, "", true, 2}, {`\($\)\(^\)a`, neither, "", false, 1},
		{`\(^\)*a`, neither, "a", true, 3}, {`a\($\)*`, neither, "a", true, 3}, {`\(^a\)*`, neither, "", true, 3}, {`\(a$\)*`, neither, "", true, 3}, {`\(^a\|b\)*`, neither, "", true, 3},
		{`\($\)a*`, neither, "", true, 2}, {`a*\(^\)`, neither, "", true, 2}, {`\(a*\)*`, neither, "", true, 2}, {`\(\(a\{0,1\}\)\{2\}\)\{2\}`, neither, "", true, 6},
	} {
		n := of(t, w.pattern, w.mode)
		least(t, n, w.mode, w.least, w.is)
		states(t, n, w.mode, w.states)
	}
}

// TestNothing: P22.2, trees whose language has no line: their number is 1; and those that have one in spite of an NSet without Ranges.
func TestNothing(t *testing.T) {
	for _, mode := range modes() {
		for _, n := range []api.Node{
			set(), cat(set(), char('-')), cat(star(set()), set()), alt(set(), set()), group(1, set()), rep(set(), 1, 1), rep(set(), 3, api.Infinite),
			cat(char('-'), group(1, cat(begin(), char('-')))), cat(group(1, cat(char('-'), end())), char('-')), cat(char('-'), group(1, begin())), cat(group(1, end()), char('-')),
		} {
			least(t, n, mode, "", false)
			states(t, n, mode, 1)
		}
		for _, n := range []api.Node{star(set()), rep(set(), 0, 0), rep(set(), 0, 2), alt(set(), empty()), cat(group(1, end()), group(2, begin()))} {
			least(t, n, mode, "", true)
			states(t, n, mode, 2)
		}
		least(t, alt(set(), char('-')), mode, "-", true)
		states(t, alt(set(), char('-')), mode, 3)
		states(t, all(mode), mode, 3)
		states(t, star(all(mode)), mode, 1)
		states(t, cat(all(mode), star(all(mode))), mode, 2)
	}
}

// TestLessByBytes: P22.2, a line is the less one, if it has less bytes, however many characters it has; of two that are as long, by their first byte that is not the same.
func TestLessByBytes(t *testing.T) {
	for pattern, want := range map[string]string{
		`ééé\|€`: "€", `aaaa\|é`: "é", `€a\|😀`: "€a", `a€\|😀`: "a€", `aaaa\|😀`: "aaaa", `😀\|ééé`: "😀", `éé\|😀`: "éé", `€\|aé`: "aé",
		`b\|é`: "b", `bb\|é`: "bb", `bbb\|é`: "é", `[é€]\|z`: "z", `[é€]`: "é", `[€-😀]`: "€", `é€\|€é`: "é€", `[^a-z]\{2\}`: "\x00\x00", `éa\|aé\|é`: "é", `ê\|é`: "é", `éb\|éa`: "éa",
	} {
		least(t, of(t, pattern, chars), chars, want, true)
	}
	for bounds, want := range map[[2]int]string{
		{0xd7ff, 0xd7ff}: "\xed\x9f\xbf", {0xe000, 0xffff}: "\xee\x80\x80", {0x800, 0xd7ff}: "\xe0\xa0\x80", {0x10000, api.MaxRune}: "\xf0\x90\x80\x80", {api.MaxRune, api.MaxRune}: "\xf4\x8f\xbf\xbf", {0x7f, 0x80}: "\x7f",
	} {
		least(t, set(bounds[0], bounds[1]), chars, want, true)
	}
	least(t, set(0x80, 0xff), neither, "\x80", true)
	least(t, set(0xff, 0xff), fold, "\xff", true)
	least(t, set(0x80, 0xd7ff, 0xe000, api.MaxRune), chars, "\xc2\x80", true)
	least(t, cat(set('B', 'B', 'b', 'b', 0xe9, 0xe9), set('A', 'A', 'a', 'a')), both, "BA", true)
}

// leastHolds: Least tells the least line of a tree that is among some, which are all that have at most so many bytes; a longer one that is told is matched. It tells what there was.
func leastHolds(t *testing.T, n api.Node, mode api.Mode, readings []reading, most int) string {
	t.Helper()
	if at := slices.Index(language(n, readings), true); at >= 0 {
		least(t, n, mode, readings[at].line, true)
		return "short"
	}
	line, is, e := compare.Least(n, mode)
	if e != api.OK || is && (len(line) <= most || !readingOf(line, mode).isIn(n)) {
		t.Fatalf("Least of %s, %v: %q, %v, %v", brief(n), mode, short(line), is, e)
	}
	least(t, n, mode, line, is)
	return map[bool]string{true: "long", false: "none"}[is]
}

// TestLeast: P22.2, of made trees, against all lines of few bytes.
func TestLeast(t *testing.T) {
	t.Parallel()
	found := map[string]int{}
	for _, mode := range modes() {
		readings := readingsOf(linesOf(letters(mode), 4), mode)
		for _, n := range made(1, pool(mode), 400) {
			found[leastHolds(t, n, mode, readings, 4)]++
		}
	}
	enough(t, found, 20, "short", "long", "none")
}

// TestStates: P22.2, of made trees, against the sets that the chapter tells of, told apart one by one; a number is as great as some lines and what is put behind them show it to be.
func TestStates(t *testing.T) {
	t.Parallel()
	found := map[string]int{}
	for _, mode := range modes() {
		behind := linesOf(letters(mode), 2)
		for _, n := range made(2, pool(mode), 400) {
			s, is := setsOf(n, mode, letters(mode), 60)
			if !is {
				found["too many"]++
				continue
			}
			number := s.number(n)
			states(t, n, mode, number)
			if rows(n, mode, behind, behind) > number {
				t.Fatalf("the model of %s, %v: %d", brief(n), mode, number)
			}
			switch {
			case number == len(s.lines):
				found["as many as sets"]++
			case number == 1:
				found["one"]++
			default:
				found["less than sets"]++
			}
		}
	}
	enough(t, found, 10, "as many as sets", "one", "less than sets")
}

// TestSmallAlone: P22.2, of all small trees.
func TestSmallAlone(t *testing.T) {
	t.Parallel()
	letters := []string{"\x00", "a", "b"}
	readings := readingsOf(linesOf(letters, 4), neither)
	for _, n := range treesOf(4) {
		leastHolds(t, n, neither, readings, 4)
		s, is := setsOf(n, neither, letters, 100)
		if !is {
			t.Fatalf("the model of %s has too many sets", brief(n))
		}
		states(t, n, neither, s.number(n))
	}
}

// TestGreatNumbers: P22.2, numbers of many states, and least lines of many bytes.
func TestGreatNumbers(t *testing.T) {
	states(t, of(t, `[ab]*a[ab]\{9\}`, neither), neither, 1025)
	states(t, of(t, `\(a\{255\}\{7\}a\{210\}\)*`, neither), neither, 1996)
	states(t, of(t, `a\{255\}\{7\}a*`, neither), neither, 1787)
	states(t, of(t, `.*a\{255\}\{7\}`, neither), neither, 1786)
	states(t, of(t, `a\{0,255\}\{7\}`, neither), neither, 1787)
	least(t, of(t, `[ab]\{255\}\{7\}`, neither), neither, strings.Repeat("a", 1785), true)
	least(t, of(t, `€\{255\}\{2\}`, chars), chars, strings.Repeat("€", 510), true)
	least(t, of(t, `\(a\{255\}\{7\}b\)\{0,1\}c`, neither), neither, "c", true)
	least(t, alt(of(t, `a\{255\}\{4\}`, neither), of(t, `b\{255\}\{3\}`, neither)), neither, strings.Repeat("b", 765), true)
}
