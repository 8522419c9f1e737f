package engine_test

import (
	"math"
	"slices"
	"strings"
	"testing"

	"dredge/api"
	"dredge/engine"
	"dredge/measure"
	"dredge/relate"
	"dredge/tree"
)

// spans are some parts.
func spans(l ...int) []api.Span {
	var out []api.Span
	for i := 0; i < len(l); i += 2 {
		out = append(out, api.Span{From: l[i], To: l[i+1]})
	}
	return out
}

// TestExamples: P21.3, the chapter's, chapter 00's and the document's, by each route.
func TestExamples(t *testing.T) {
	for _, c := range []struct {
		pattern, line string
		mode          api.Mode
		all           []api.Span
	}{
		{`a*`, "baac", neither, spans(0, 0, 1, 3, 3, 3, 4, 4)},
		{`\(a*\)\1`, "aaaaa", neither, spans(0, 4, 4, 4, 5, 5)},
		{`\(a*\)*\1`, "aa", neither, spans(0, 2)},
		{`\(a\|ab\)\(c\|bcd\)`, "abcd", neither, spans(0, 4)},
		{`^a`, "aa", neither, spans(0, 1)},
		{`\(\(a\)\|b\)*\2`, "aba", neither, spans(0, 3)},
		{`x$`, "xx", neither, spans(1, 2)},
		{`[^a]`, "€", chars, spans(0, 3)},
		{`[^a]`, "€", neither, spans(0, 1, 1, 2, 2, 3)},
		{`x*`, "\x82x", chars, spans(0, 0, 1, 2, 2, 2)},
		{`\(a\{0,1\}\)\{2\}b\1c`, "abc", neither, spans(0, 3)},
		{`\(ab*\)\1`, "xababbab", neither, spans(1, 5)},
		{`a\{2,3\}`, "aaaa", neither, spans(0, 3)},
		{`[[:digit:]]\+$`, "a1b22", neither, spans(3, 5)},
		{`a`, "BaA", fold, spans(1, 2, 2, 3)},
		{``, "€a", both, spans(0, 0, 3, 3, 4, 4)},
		{``, "€a", fold, spans(0, 0, 1, 1, 2, 2, 3, 3, 4, 4)},
		{`$`, "aé", chars, spans(3, 3)},
		{`^`, "aé", chars, spans(0, 0)},
		{`b`, "aé", chars, nil},
		{``, "", neither, spans(0, 0)},
		{`a\{0\}`, "", neither, spans(0, 0)},
		{`a`, "", neither, nil},
		{`\(.\)\1`, "éé\xa9\xa9aa", chars, spans(0, 4, 6, 8)},
		{`\(.\)\1`, "aAéÉ€€", both, spans(0, 2, 6, 12)},
		{`.`, "\n\x00\xff", neither, spans(0, 1, 1, 2, 2, 3)},
	} {
		for _, a := range askAll(t, c.pattern, c.mode) {
			for range 2 {
				a.goesOver(c.line, c.all)
				if len(c.all) == 0 {
					a.none(c.line, 0)
				} else {
					a.tells(c.line, 0, c.all[0])
				}
			}
		}
	}
	for _, a := range askAll(t, `a*`, neither) {
		a.tells("baa", 1, api.Span{From: 1, To: 3})
		a.refuses("baa", -1)
		a.refuses("baa", 4)
	}
}

// TestMadePatterns: P21.3, many patterns, with backreferences and without, all modes, by each route, in all short lines and in some longer ones: chapter 00's FIND and ALL.
func TestMadePatterns(t *testing.T) {
	next := numbers(21)
	told := map[string]int{}
	for i := range 1200 {
		mode := modes()[i%4]
		pattern := madePattern(next, mode, i%3 == 0)
		e, err := engine.Compile(pattern, api.Plan{Mode: mode, Room: 2})
		if err != nil {
			t.Fatalf("Compile(%q, %v): %v", pattern, mode, err)
		}
		if e.Size() > 300 {
			continue
		}
		told[[]string{"", "lazy", "machine"}[e.Route()]]++
		l := askAll(t, pattern, mode)
		for _, line := range linesOf(letters(mode), 2) {
			holds(l, line, told)
		}
		for range 3 {
			holds(l, madeLine(next, mode, 6), told)
		}
	}
	enough(t, told, 300, "lazy", "machine")
	enough(t, told, 10000, "found", "none", "refused", "several")
}

// TestByTheRelation: P21.3 and T1, what chapter 12 finds.
func TestByTheRelation(t *testing.T) {
	next := numbers(77)
	looked := 0
	for i := range 1200 {
		mode := modes()[i%4]
		pattern := madePattern(next, mode, i%3 == 0)
		e := engine.Must(pattern, api.Plan{Mode: mode, Room: 9})
		n := e.Tree()
		if tree.Count(n) > api.MaxSmall || len(measure.Used(n, mode)) > api.MaxRefs || e.Size() > 300 {
			continue
		}
		looked++
		line := madeLine(next, mode, 9)
		for from := -1; from <= len(line)+1; from++ {
			want, is, f := relate.Find(n, line, from, mode)
			if part, found, g := e.Find(line, from); part != want || found != is || g != f {
				t.Fatalf("%q, %v: Find in %q from %d: %v, %v, %v; by the relation %v, %v, %v", pattern, mode, line, from, part, found, g, want, is, f)
			}
		}
	}
	if looked < 800 {
		t.Errorf("only %d patterns", looked)
	}
}

// TestAnyOrder: P21.3, whatever was asked ahead: lines and places in any order, wrong ones among them, and ranges that are left.
func TestAnyOrder(t *testing.T) {
	next := numbers(5)
	for i := range 250 {
		mode := modes()[i%4]
		pattern := madePattern(next, mode, i%3 == 0)
		if engine.Must(pattern, api.Plan{Mode: mode, Room: 2}).Size() > 300 {
			continue
		}
		var lines []string
		for range 4 {
			lines = append(lines, madeLine(next, mode, 6))
		}
		for _, a := range askAll(t, pattern, mode) {
			n := a.Tree()
			for range 40 {
				r := readingOf(lines[next(len(lines))], mode)
				from := next(len(r.line)+3) - 1
				if !r.isPlace(from) {
					a.refuses(r.line, from)
				} else if part, is := r.find(n, from); is {
					a.tells(r.line, from, part)
				} else {
					a.none(r.line, from)
				}
				for range a.All(lines[next(len(lines))]) {
					if next(3) == 0 {
						break
					}
				}
			}
		}
	}
}

// TestWrongPlaces: P21.3 and P6, numbers that are no places: below 0, past the end, with Chars within a character.
func TestWrongPlaces(t *testing.T) {
	for _, mode := range modes() {
		for _, pattern := range []string{``, `a*`, `.`, `[^a]*$`, `\(a*\)\1`, `\(.\)*\1`, `^`, `$`, `\(\)\1$`} {
			for _, a := range askAll(t, pattern, mode) {
				for _, line := range []string{"", "a", "é", "a€", "\U0001f600a", "\xa9\xc3", "\xe2\x82", "\xed\xa0\x80", "\xef\xbf\xbd", "\n\n"} {
					r := readingOf(line, mode)
					for _, from := range []int{math.MinInt, -4, -3, -2, -1, len(line) + 1, len(line) + 2, len(line) + 3, len(line) + 4, math.MaxInt} {
						a.refuses(line, from)
					}
					for from := range len(line) + 1 {
						if !r.isPlace(from) {
							a.refuses(line, from)
						} else if part, is := r.find(a.Tree(), from); is {
							a.tells(line, from, part)
						} else {
							a.none(line, from)
						}
					}
				}
			}
		}
	}
}

// TestAnchors: P21.3, NBegin is at 0 alone, wherever the search begins, NEnd at the line's length alone: in the middle of All, too.
func TestAnchors(t *testing.T) {
	told := map[string]int{}
	for _, mode := range modes() {
		for _, pattern := range []string{`^`, `$`, `^$`, `^-`, `-$`, `\(^-\)*`, `\(-$\)*`, `^\|-`, `$\|-`, `\(^\|-\)\1`, `\(-\)*\1$`, `^\(-*\)\1$`, `\(^\)\1-`, `\(-\|$\)\1`, `\(^-\|0\)\1*`} {
			l := askAll(t, pattern, mode)
			for _, line := range append(linesOf([]string{"-", "0"}, 4), "\n", "-\n-", "\n-\n", "é-", "-é", "é", "\xa9-", "-\xc3") {
				holds(l, line, told)
			}
		}
	}
	enough(t, told, 2000, "found", "none", "several")
}

// TestAllBytes: P21.3 and T7, each byte, in lines with it and of others.
func TestAllBytes(t *testing.T) {
	for b := range 256 {
		line := string([]byte{byte(b), byte(b), byte(b + 1)})
		for _, mode := range modes() {
			for _, pattern := range []string{`.`, `\(.\)\1`, `[^a]*`} {
				l := askAll(t, pattern, mode)
				holds([]asked{l[0], l[len(l)-2]}, line, map[string]int{})
			}
		}
	}
}

// TestLongLines: P21.3 and P21.5, with any two plans the same, in lines that are long; and there, too, a Find does no more steps than Bound tells.
func TestLongLines(t *testing.T) {
	next := numbers(8)
	for i := range 300 {
		mode := modes()[i%4]
		pattern := madePattern(next, mode, i%3 > 0)
		e := engine.Must(pattern, api.Plan{Mode: mode, Room: 100})
		if e.Size() > 200 || len(measure.Used(e.Tree(), mode)) > 2 {
			continue
		}
		line := madeLine(next, mode, 60)
		all := slices.Collect(e.All(line))
		rises(t, pattern, line, all)
		for _, a := range askAll(t, pattern, mode) {
			if a.plan.Plain {
				// It may take very long.
				continue
			}
			a.goesOver(line, all)
			for _, from := range readingOf(line, mode).places {
				if part, is, _ := e.Find(line, from); is {
					a.tells(line, from, part)
				} else {
					a.none(line, from)
				}
			}
		}
	}
}

// rises: P21.5, each part begins not ahead of where the one ahead of it ends, and behind where it begins.
func rises(t *testing.T, pattern, line string, all []api.Span) {
	t.Helper()
	for i := 1; i < len(all); i++ {
		if all[i].From < all[i-1].To || all[i].From <= all[i-1].From {
			t.Fatalf("%q: All in %q: %v, and then %v", pattern, line, all[i-1], all[i])
		}
	}
}

// TestVeryLongLines: P21.3, where who did more than a few steps a byte would go on for long.
func TestVeryLongLines(t *testing.T) {
	long := strings.Repeat("a", 100000)
	for _, c := range []struct {
		pattern string
		route   int
	}{{`a*b`, api.Lazy}, {`\(a*\)*$`, api.Lazy}, {`\(a\|aa\)*b`, api.Lazy}, {`\(a\|aa\)*b`, api.Machine}, {`\(b\)\1`, api.Machine}, {`aab`, api.Machine}} {
		for _, mode := range []api.Mode{neither, both} {
			a := ask(t, c.pattern, api.Plan{Mode: mode, Room: 50, Route: c.route})
			if part, found, e := a.find(long, 7); found != (c.pattern == `\(a*\)*$`) || found && part != (api.Span{From: 7, To: 100000}) || e != api.OK {
				t.Errorf("%q, %v: %v, %v, %v", c.pattern, mode, part, found, e)
			}
		}
	}
}
