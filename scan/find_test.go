package scan_test

import (
	"math"
	"strings"
	"testing"

	"dredge/api"
	"dredge/compile"
	"dredge/measure"
	"dredge/nfa"
	"dredge/relate"
	"dredge/tree"
)

// TestExamples: P18.2, the chapter's, chapter 00's and the document's, of trees without backreferences: (-1, -1) is none, (-2, -2) refused.
func TestExamples(t *testing.T) {
	for _, c := range []struct {
		pattern    string
		mode       api.Mode
		line       string
		from       int
		begin, end int
	}{
		{`b*a`, neither, "bbcbba", 0, 3, 6},
		{`b*a`, neither, "bbcbba", 4, 4, 6},
		{`x*`, chars, "\x82x", 0, 0, 0},
		{`x*`, chars, "\x82x", 1, 1, 2},
		{`x*`, chars, "é", 1, -2, -2},
		{`a$`, neither, "aba", 0, 2, 3},
		{`[é]`, chars, "Aé", 0, 1, 3},
		{`a*`, neither, "baac", 0, 0, 0},
		{`a*`, neither, "baac", 1, 1, 3},
		{`a*`, neither, "baac", 3, 3, 3},
		{`a*`, neither, "baac", 4, 4, 4},
		{`\(a\|ab\)\(c\|bcd\)`, neither, "abcd", 0, 0, 4},
		{`^a`, neither, "aa", 0, 0, 1},
		{`^a`, neither, "aa", 1, -1, -1},
		{`x$`, neither, "xx", 0, 1, 2},
		{`[^a]`, chars, "€", 0, 0, 3},
		{`[^a]`, neither, "€", 0, 0, 1},
		{`[^a]`, neither, "€", 1, 1, 2},
		{`a\{2,3\}`, neither, "aaaa", 0, 0, 3},
		{`a\{2,3\}`, neither, "aaaa", 3, -1, -1},
		{`[[:digit:]]\+$`, neither, "a1b22", 0, 3, 5},
		{`b*a`, fold, "CBbA", 0, 1, 4},
		{`[é]`, both, "AÉé", 0, 3, 5},
	} {
		for _, room := range rooms() {
			a := ask(t, of(t, c.pattern, c.mode), c.mode, room)
			for range 3 {
				switch c.begin {
				case -1:
					a.none(c.line, c.from)
				case -2:
					a.refuses(c.line, c.from)
				default:
					a.tells(c.line, c.from, c.begin, c.end)
				}
			}
		}
	}
}

// TestSmallTrees: P18.2, all right trees of few nodes of some kinds, in all short lines from all places, one after the other by one scan.
func TestSmallTrees(t *testing.T) {
	told := map[string]int{}
	count := 0
	for nodes, l := range treesOf(6) {
		lines := linesOf([]string{"a", "b"}, min(4, 8-nodes))
		for i, n := range l {
			// Those of six nodes are too many: every ninth stands for its neighbours.
			if nodes == 6 && i%9 != 0 {
				continue
			}
			note(told, n)
			count++
			holdsAll([]asked{ask(t, n, neither, rooms()[count%5])}, lines, told)
		}
	}
	enough(t, told, 300, "empty", "set", "begin", "end", "cat", "alt", "group", "rep")
	enough(t, told, 10000, "found", "none", "refused")
}

// TestMadeTrees: P18.2, many trees, all modes, in all short lines from all places, at several rooms.
func TestMadeTrees(t *testing.T) {
	next := numbers(11)
	told := map[string]int{}
	for i := range 1200 {
		mk := &maker{next: next, mode: modes()[i%4]}
		n := mk.pattern(1)
		if measure.Size(n, mk.mode) > 600 {
			continue
		}
		note(told, n)
		automata := []asked{ask(t, n, mk.mode, 2), ask(t, n, mk.mode, 3+next(20))}
		holdsAll(automata, linesOf(alphabet(mk.mode), 2+i%32/30), told)
	}
	enough(t, told, 100, "empty", "begin", "end")
	enough(t, told, 800, "set", "cat", "alt", "group", "rep")
	enough(t, told, 10000, "found", "none", "refused")
}

// TestLongerLines: P18.2, many trees, all modes, in longer lines.
func TestLongerLines(t *testing.T) {
	next := numbers(23)
	told := map[string]int{}
	for i := range 800 {
		mk := &maker{next: next, mode: modes()[i%4]}
		n := mk.pattern(1)
		if measure.Size(n, mk.mode) > 300 {
			continue
		}
		var automata []asked
		for _, room := range rooms() {
			automata = append(automata, ask(t, n, mk.mode, room))
		}
		holdsAll(automata, []string{madeLine(next, alphabet(mk.mode), 30), madeLine(next, alphabet(mk.mode), 12)}, told)
	}
	enough(t, told, 5000, "found", "none", "refused")
}

// TestAnyOrder: P18.2 and P4, lines and places in any order, wrong places among them: each as if nothing had been asked.
func TestAnyOrder(t *testing.T) {
	next := numbers(99)
	for i := range 300 {
		mk := &maker{next: next, mode: modes()[i%4]}
		n := mk.pattern(1)
		if measure.Size(n, mk.mode) > 300 {
			continue
		}
		a := ask(t, n, mk.mode, 2+next(6))
		var lines []reading
		for range 4 {
			lines = append(lines, readingOf(madeLine(next, alphabet(mk.mode), 9), mk.mode))
		}
		for range 60 {
			r := lines[next(len(lines))]
			a.holds(r, next(len(r.line)+3)-1)
		}
	}
}

// TestOthers: P18.2 and T2, the same part as by the relation (chapter 12), and by sets of places (chapter 16).
func TestOthers(t *testing.T) {
	next := numbers(41)
	looked := 0
	for i := range 1500 {
		mk := &maker{next: next, mode: modes()[i%4]}
		n := mk.pattern(1)
		if measure.Size(n, mk.mode) > 300 || tree.Count(n) > api.MaxSmall {
			continue
		}
		looked++
		a := ask(t, n, mk.mode, 2+next(9))
		line := madeLine(next, alphabet(mk.mode), 7)
		p, _ := compile.Plain(n, mk.mode)
		for from := range len(line) + 1 {
			part, found, e := a.find(line, from)
			if x, is, f := relate.Find(n, line, from, mk.mode); x != part || is != found || f != e {
				t.Fatalf("%s, %v: Find in %q from %d: %v, %v, %v; by the relation %v, %v, %v", brief(n), mk.mode, line, from, part, found, e, x, is, f)
			}
			// Programs know bytes alone: with Chars they find parts without bytes within characters.
			if x, is, _, _ := nfa.Find(p, line, from); !mk.mode.Chars && (x != part || is != found) {
				t.Fatalf("%s, %v: Find in %q from %d: %v, %v; by sets of places %v, %v", brief(n), mk.mode, line, from, part, found, x, is)
			}
		}
	}
	if looked < 1000 {
		t.Errorf("only %d trees", looked)
	}
}

// TestFollows: P18.4, of each other's answers.
func TestFollows(t *testing.T) {
	next := numbers(61)
	same, later := 0, 0
	for i := range 1000 {
		mk := &maker{next: next, mode: modes()[i%4]}
		n := mk.pattern(1)
		if measure.Size(n, mk.mode) > 300 {
			continue
		}
		a := ask(t, n, mk.mode, 2+next(9))
		r := readingOf(madeLine(next, alphabet(mk.mode), 9), mk.mode)
		for from := range len(r.line) + 1 {
			if !r.isPlace(from) {
				continue
			}
			part, found, _ := a.find(r.line, from)
			if !found {
				continue
			}
			if !r.isPlace(part.From) || !r.isPlace(part.To) || part.From < from || part.To < part.From {
				t.Fatalf("%s, %v: Find in %q from %d: %v", brief(n), mk.mode, r.line, from, part)
			}
			for at := from; at < part.From; at++ {
				if r.isPlace(at) && len(r.ends(n, []int{at})) > 0 {
					t.Fatalf("%s, %v: Find in %q from %d: %v, and at %d begins another", brief(n), mk.mode, r.line, from, part, at)
				}
				later++
			}
			a.tells(r.line, part.From, part.From, part.To)
			same++
		}
	}
	if same < 1000 || later < 500 {
		t.Errorf("%d, %d", same, later)
	}
}

// TestAnchors: P18.2, NBegin is at 0 alone, wherever the search begins, NEnd at the line's length alone: whatever stands beside.
func TestAnchors(t *testing.T) {
	for _, mode := range modes() {
		for _, pattern := range []string{
			`^`, `$`, `^$`, `^-`, `-$`, `^-$`, `\(^\)`, `\($\)`, `\(^-\)*`, `\(-$\)*`, `\(^\|-\)0`, `-\($\|0\)`, `\(^-\|0$\)\{2\}`, `\(^\|$\)\{2,3\}`,
			`-*\(^\)0`, `0\($\)-*`, `^-*$`, `\(^-*\|0\)*`, `\(^0\|-\)\+`, `^\|-`, `$\|-`, `\(^\)*\($\)*-`,
		} {
			n := of(t, pattern, mode)
			told := map[string]int{}
			lines := append(linesOf([]string{"-", "0"}, 4), "\n", "-\n-", "\n-\n", "-\n0\n", "é-", "-é", "é", "-é-", "\xa9-", "-\xc3", "€0-")
			holdsAll([]asked{ask(t, n, mode, 2), ask(t, n, mode, 100)}, lines, told)
		}
	}
}

// TestPlaces: P18.2, which numbers are a line's places: with Chars none within a character, all beside what is none.
func TestPlaces(t *testing.T) {
	lines := linesOf([]string{"a", "\x80", "\xbf", "\xc2", "\xe0", "\xed", "\xa0", "\xf4", "\x90"}, 4)
	lines = append(lines, linesOf([]string{"a", "é", "€", "\U0001f600", "\xa9"}, 3)...)
	lines = append(lines, "\xf0\x8f\xbf\xbf", "\xf0\x90\x80\x80", "\xf4\x8f\xbf\xbf", "\xf4\x90\x80\x80", "\xef\xbf\xbd", "\xef\xbf\xbda", "\xc1\xbf", "\xff", "\xc0\x80", "\xe0\x9f\xbf", "\xe0\xa0\x80", "\xed\x9f\xbf", "\xed\xa0\x80", "\xee\x80\x80", "\xf8\x88\x80\x80\x80", "é\xa9\xa9\xa9\xa9", "\xf0\x9f\x98", "\xf0\x9f\x98\x80\x80")
	told := map[string]int{}
	for _, pattern := range []string{`x*`, `a*$`, `.`, `.*`, `[^a]*a`, `\(\)`, `[€-😀]*`} {
		n := of(t, pattern, chars)
		holdsAll([]asked{ask(t, n, chars, 100)}, lines, told)
	}
	enough(t, told, 1000, "found", "none", "refused")
	for _, mode := range []api.Mode{neither, fold} {
		n := of(t, `[^a]*`, mode)
		holdsAll([]asked{ask(t, n, mode, 100)}, lines, told)
	}
}

// TestWithinCharacters: P18.2, with Chars no part is told between the bytes of a character, not even one without bytes; nor do its bytes count as others.
func TestWithinCharacters(t *testing.T) {
	for _, room := range rooms() {
		a := ask(t, of(t, `x*$`, chars), chars, room)
		a.tells("é", 0, 2, 2)
		a.tells("x€😀", 0, 8, 8)
		a.tells("é\xa9", 0, 3, 3)
		a.tells("\xa9é", 1, 3, 3)
		a = ask(t, of(t, `x*`, chars), chars, room)
		a.tells("éx", 2, 2, 3)
		for from, at := range []int{0, -1, 2, -1, -1, 5, -1, -1, -1, 9} {
			if at < 0 {
				a.refuses("é€😀", from)
			} else {
				a.tells("é€😀", from, at, at)
			}
		}
		a = ask(t, set(0xa9, 0xa9, 0xc3, 0xc3), chars, room)
		a.none("é", 0)
		a.none("\xa9\xc3", 0)
		a.tells("é©Ã", 0, 2, 4)
		a.tells("é©Ã", 4, 4, 6)
		a = ask(t, of(t, `[^é]\+`, both), both, room)
		a.tells("éa\xc3\xa9b", 0, 2, 3)
		a.tells("éab\xc3b\xa9", 0, 2, 4)
	}
}

// TestWrongPlaces: P18.2 and P2, far and near; nothing is done, and what is asked behind that is told as ever.
func TestWrongPlaces(t *testing.T) {
	for _, mode := range modes() {
		for _, line := range []string{"", "-", "--0", "é-€", strings.Repeat("-", 1000)} {
			for _, n := range []api.Node{star(char('-')), set(), empty(), end()} {
				a := ask(t, n, mode, 2)
				for range 2 {
					for _, from := range []int{-1, -2, -3, -4, math.MinInt, math.MinInt + 1, math.MinInt32, len(line) + 1, len(line) + 2, len(line) + 3, len(line) + 4, math.MaxInt32, math.MaxInt} {
						a.refuses(line, from)
					}
					a.holds(readingOf(line, mode), 0)
					a.holds(readingOf(line, mode), len(line))
				}
			}
		}
	}
}

// TestFirstThenLongest: P18.2, what begins first goes ahead of what is longer, and of what ends first; then the longest.
func TestFirstThenLongest(t *testing.T) {
	for _, room := range rooms() {
		a := ask(t, of(t, `a\|bcd*`, neither), neither, room)
		a.tells("xabcddd", 0, 1, 2)
		a.tells("xabcddd", 2, 2, 7)
		a = ask(t, of(t, `bc\|abcd`, neither), neither, room)
		a.tells("xabcd", 0, 1, 5)
		a.tells("xabc", 0, 2, 4)
		a.tells("xabcd", 2, 2, 4)
		a = ask(t, of(t, `ab\|abcd\|abc`, neither), neither, room)
		a.tells("abcd", 0, 0, 4)
		a.tells("abcab", 0, 0, 3)
		a.tells("abab", 1, 2, 4)
		a.none("ab", 1)
		a.none("", 0)
		a = ask(t, of(t, `a*`, neither), neither, room)
		a.tells("", 0, 0, 0)
		a.tells("baa", 0, 0, 0)
		a.tells("aab", 2, 2, 2)
	}
}

// TestNothing: P18.2, trees that match nowhere, or nothing but parts without bytes.
func TestNothing(t *testing.T) {
	for _, mode := range modes() {
		told := map[string]int{}
		lines := linesOf(alphabet(mode), 3)
		holdsAll([]asked{ask(t, set(), mode, 2)}, lines, told)
		holdsAll([]asked{ask(t, cat(star(char('-')), set()), mode, 2)}, lines, told)
		holdsAll([]asked{ask(t, rep(set(), 1, api.Infinite), mode, 2)}, lines, told)
		if told["found"] > 0 {
			t.Errorf("%v: %v", mode, told)
		}
		holdsAll([]asked{ask(t, empty(), mode, 2)}, lines, told)
		holdsAll([]asked{ask(t, rep(char('-'), 0, 0), mode, 2)}, lines, told)
		holdsAll([]asked{ask(t, star(set()), mode, 2)}, lines, told)
		enough(t, told, 100, "found", "none")
	}
}

// TestAllBytes: P18.2, each byte by itself; each unit of one.
func TestAllBytes(t *testing.T) {
	var all [256]byte
	for b := range all {
		all[b] = byte(b)
	}
	line := string(all[:])
	for b := range 256 {
		a := ask(t, char(b), neither, 5)
		a.tells(line, 0, b, b+1)
		a.tells(line, b, b, b+1)
		a.none(line, b+1)
		c := ask(t, char(b), chars, 5)
		c.holds(readingOf(line, chars), 0)
		c.tells(line+string(rune(b)), 256, 256, 256+len(string(rune(b))))
	}
}

// TestFolds: P18.2, with Fold the letters A to Z alone.
func TestFolds(t *testing.T) {
	for _, mode := range []api.Mode{fold, both} {
		a := ask(t, of(t, `k[x-z]\{2\}[^a-w]`, mode), mode, 4)
		a.tells("kKxYzZ", 0, 1, 5)
		a.none("KXYA", 0)
		a = ask(t, of(t, `[é]k`, both), both, 4)
		a.tells("ÉKéK", 0, 3, 6)
		// The sign of Kelvin is no letter that counts as another.
		a.none("é\u212a", 0)
	}
	a := ask(t, of(t, `ab`, neither), neither, 4)
	a.none("AB aB Ab", 0)
}

// TestLongLines: P18.2 and P18.3, lines much longer than what is kept.
func TestLongLines(t *testing.T) {
	half := strings.Repeat("ab", 10000)
	for _, room := range []int{2, 3, 100, api.MaxRoom} {
		a := ask(t, of(t, `c[ab]*d`, neither), neither, room)
		line := half + "c" + half + "d" + half
		a.tells(line, 0, 20000, 40002)
		a.none(line, 20001)
		a = ask(t, of(t, `[ab]*a[ab]\{9\}$`, neither), neither, room)
		a.tells(half, 0, 0, 20000)
		a.tells(half, 19989, 19989, 20000)
		a.tells(half, 19990, 19990, 20000)
		a.none(half, 19991)
		a = ask(t, of(t, `[é€]*$`, chars), chars, room)
		line = strings.Repeat("é€x", 3000)
		a.tells(line, 0, 18000, 18000)
		a.tells(line+"é", 0, 18000, 18002)
		a.refuses(line+"é", 18001)
		a.tells(line+"\xa9é", 0, 18001, 18003)
	}
}

// TestNotKept: P3, the line that was asked is not what is asked next, though it is as long.
func TestNotKept(t *testing.T) {
	for _, room := range rooms() {
		a := ask(t, of(t, `ab*`, neither), neither, room)
		bytes := []byte("xabbx")
		a.tells(string(bytes), 0, 1, 4)
		bytes[1] = 'b'
		a.none(string(bytes), 0)
		bytes[3] = 'a'
		a.tells(string(bytes), 0, 3, 4)
	}
}
