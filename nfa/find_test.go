package nfa_test

import (
	"testing"

	"dredge/api"
	"dredge/compile"
	"dredge/nfa"
	"dredge/parse"
	"dredge/relate"
)

// TestBeginsFirst: P16.3, of several that are on their way the one that began first goes ahead, when it matches late, when others matched, when they come to the same instruction.
func TestBeginsFirst(t *testing.T) {
	for _, c := range []struct {
		pattern, line string
		from          int
		part          api.Span
	}{
		{`abcd\|b`, "abcd", 0, api.Span{From: 0, To: 4}},
		{`b\|abcd`, "abcd", 0, api.Span{From: 0, To: 4}},
		{`abcd\|b`, "abcx", 0, api.Span{From: 1, To: 2}},
		{`abcd\|bc\|b`, "abcx", 0, api.Span{From: 1, To: 3}},
		{`abcde\|bcd\|cdef\|c`, "abcdef", 0, api.Span{From: 0, To: 5}},
		{`abcde\|bcd\|cdef\|c`, "abcdef", 1, api.Span{From: 1, To: 4}},
		{`abcde\|bcd\|cdef\|c`, "abcdef", 2, api.Span{From: 2, To: 6}},
		{`abcde\|bcd\|cdef\|c`, "abcdf", 0, api.Span{From: 1, To: 4}},
		{`abcde\|bcf\|cdef\|c`, "abcdg", 0, api.Span{From: 2, To: 3}},
		{`a*b`, "aaab", 0, api.Span{From: 0, To: 4}},
		{`a*b`, "aaab", 2, api.Span{From: 2, To: 4}},
		{`a*`, "baa", 0, api.Span{}},
		{`a*$`, "abaa", 0, api.Span{From: 2, To: 4}},
		{`^a\|b`, "ab", 1, api.Span{From: 1, To: 2}},
		{`a\|ab\|abc`, "abcabc", 0, api.Span{From: 0, To: 3}},
		{`\(a\|ab\)\(c\|bcd\)`, "abcd", 0, api.Span{From: 0, To: 4}},
		{`aaaa\|a`, "aaab", 0, api.Span{From: 0, To: 1}},
		{`.*c\|b`, "abcb", 0, api.Span{From: 0, To: 3}},
		{`[ab]*c\|ab`, "abab", 0, api.Span{From: 0, To: 2}},
		{`[ab]*c\|b`, "abab", 0, api.Span{From: 1, To: 2}},
	} {
		finds(t, plain(t, c.pattern), c.line, c.from, c.part)
	}
}

// plain is a pattern's program.
func plain(t *testing.T, pattern string) api.Program {
	t.Helper()
	n, err := parse.Parse(pattern, api.Mode{})
	if err != nil {
		t.Fatalf("Parse(%q): %v", pattern, err)
	}
	p, e := compile.Plain(n, api.Mode{})
	if e != api.OK {
		t.Fatalf("Plain(%q): %v", pattern, e)
	}
	return p
}

// TestLaterOnesGoAhead: P16.3, where the orders in which instructions stand, and in which ways go on, are turned round.
func TestLaterOnesGoAhead(t *testing.T) {
	// aab from 0, ab from 1: both read the b last, by instructions in either order.
	for _, p := range []api.Program{
		of(split(1, 5), only('a'), only('a'), only('b'), match(), only('a'), only('b'), match()),
		of(split(1, 4), only('a'), only('b'), match(), only('a'), only('a'), only('b'), match()),
		of(split(4, 1), only('a'), only('b'), match(), only('a'), only('a'), only('b'), match()),
	} {
		finds(t, p, "aab", 0, api.Span{From: 0, To: 3})
		finds(t, p, "aab", 1, api.Span{From: 1, To: 3})
		finds(t, p, "aaab", 0, api.Span{From: 1, To: 4})
	}
}

// TestSmallPrograms: P16.2, P16.3 and P16.4, all programs of at most three instructions of a few bytes, in all short lines.
func TestSmallPrograms(t *testing.T) {
	lines := linesOf([]string{"a", "b"}, 3)
	asked, matches := 0, 0
	for count := 1; count <= 3; count++ {
		for p := range programsOf(count) {
			for _, line := range lines {
				asked++
				matches += holds(t, p, line)
			}
		}
	}
	if asked < 10000 || matches < 10000 {
		t.Errorf("%d lines were asked, %d matches found", asked, matches)
	}
}

// TestSomeOfFour: P16.2, P16.3 and P16.4, some of the programs of four instructions.
func TestSomeOfFour(t *testing.T) {
	lines := linesOf([]string{"a", "b"}, 4)
	count, matches := 0, 0
	for p := range programsOf(4) {
		if count++; count%31 == 0 {
			matches += holds(t, p, lines[count/31%len(lines)])
		}
	}
	if matches < 1000 {
		t.Errorf("of %d programs: %d matches", count, matches)
	}
}

// TestMadePrograms: P16.2, P16.3 and P16.4, programs of many instructions.
func TestMadePrograms(t *testing.T) {
	next := numbers(16)
	matches, none := 0, 0
	for range 6000 {
		p, line := made(next, 30), madeLine(next, 12)
		if n := holds(t, p, line); n > 0 {
			matches += n
		} else {
			none++
		}
	}
	if matches < 5000 || none < 500 {
		t.Errorf("%d matches; in %d lines none", matches, none)
	}
}

// TestFollows: P16.5, the calls held against each other.
func TestFollows(t *testing.T) {
	next := numbers(5)
	for range 2000 {
		p, line := made(next, 25), madeLine(next, 10)
		last := api.Span{From: len(line) + 1}
		for from := len(line); from >= 0; from-- {
			part, found, _, _ := nfa.Find(p, line, from)
			first := from
			for ; first <= len(line); first++ {
				if to, reached, _, _ := nfa.Longest(p, line, first); reached {
					if !found || part != (api.Span{From: first, To: to}) {
						t.Errorf("%v in %q: Find from %d: %v, %v; Longest at %d: %d", p, line, from, part, found, first, to)
					}
					break
				}
			}
			if found != (first <= len(line)) {
				t.Errorf("%v in %q: Find from %d: %v, Longest first at %d", p, line, from, found, first)
			}
			if found && part.From > last.From {
				t.Errorf("%v in %q: Find from %d: %v, from the next place on %v", p, line, from, part, last)
			}
			if found {
				last = part
			}
		}
	}
}

// TestPatterns: P16.3, what Find tells of a pattern's program is what chapter 00 says of the pattern.
func TestPatterns(t *testing.T) {
	lines := linesOf([]string{"a", "b"}, 6)
	for _, pattern := range []string{
		`a*`, `ab*a`, `\(a\|b\)*b`, `\(ab\|a\)\(b*\)`, `^a*$`, `a\{2,3\}`, `\(a\{0,1\}b\)\{2\}`, `b$\|^a`, `\(a*\)*b`, `[^a]a\?`, `\(a*b\)\{2,\}`, `\(^a\|b\)*$`,
	} {
		n, err := parse.Parse(pattern, api.Mode{})
		if err != nil {
			t.Fatalf("Parse(%q): %v", pattern, err)
		}
		p := plain(t, pattern)
		for _, line := range lines {
			for from := range len(line) + 1 {
				part, found, e := relate.Find(n, line, from, api.Mode{})
				if e != api.OK {
					t.Fatalf("relate.Find(%q, %q, %d): %v", pattern, line, from, e)
				}
				if found {
					finds(t, p, line, from, part)
				} else {
					findsNone(t, p, line, from)
				}
			}
		}
	}
}
