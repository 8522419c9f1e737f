package relate_test

import (
	"reflect"
	"slices"
	"strings"
	"testing"

	"dredge/api"
	"dredge/measure"
	"dredge/relate"
	"dredge/tree"
)

type example struct {
	pattern, line string
	mode          api.Mode
	want          api.Span
}

// examples are chapter 00's and DOC.md's of Find, and some beside them.
func examples() []example {
	return []example{
		{"a*", "baac", neither, api.Span{From: 0, To: 0}},
		{`\(a*\)\1`, "aaaaa", neither, api.Span{From: 0, To: 4}},
		{`\(a*\)*\1`, "aa", neither, api.Span{From: 0, To: 2}},
		{`\(a\|ab\)\(c\|bcd\)`, "abcd", neither, api.Span{From: 0, To: 4}},
		{"^a", "aa", neither, api.Span{From: 0, To: 1}},
		{`\(\(a\)\|b\)*\2`, "aba", neither, api.Span{From: 0, To: 3}},
		{"x$", "xx", neither, api.Span{From: 1, To: 2}},
		{"[^a]", "€", chars, api.Span{From: 0, To: 3}},
		{"[^a]", "€", neither, api.Span{From: 0, To: 1}},
		{"x*", "\x82x", chars, api.Span{From: 0, To: 0}},
		{`\(a\{0,1\}\)\{2\}b\1c`, "abc", neither, api.Span{From: 0, To: 3}},
		{`\(ab*\)\1`, "xababbab", neither, api.Span{From: 1, To: 5}},
		{`a\{2,3\}`, "aaaa", neither, api.Span{From: 0, To: 3}},
		{`[[:digit:]]\+$`, "a1b22", neither, api.Span{From: 3, To: 5}},
		{`\(ab\)\1B`, "xaBAbb", fold, api.Span{From: 1, To: 6}},
		{`.`, "\xc3é", chars, api.Span{From: 1, To: 3}},
		{`\(é\)\1`, "éÉéé", both, api.Span{From: 4, To: 8}},
	}
}

// TestFindExamples: P12.2, chapter 00's examples.
func TestFindExamples(t *testing.T) {
	for _, x := range examples() {
		if part, is, e := relate.Find(of(t, x.pattern, x.mode), x.line, 0, x.mode); e != api.OK || !is || part != x.want {
			t.Errorf("%q in %q, %v: %v, %v, %v, not %v", x.pattern, x.line, x.mode, part, is, e, x.want)
		}
	}
	for _, x := range []struct {
		pattern, line string
		from          int
	}{{"b", "aa", 0}, {"^a", "aa", 1}, {"a", "ab", 1}, {"a", "", 0}, {`\(a\)\1`, "aba", 0}} {
		if part, is, e := relate.Find(of(t, x.pattern, neither), x.line, x.from, neither); e != api.OK || is || part != (api.Span{}) {
			t.Errorf("%q in %q from %d: %v, %v, %v", x.pattern, x.line, x.from, part, is, e)
		}
	}
}

// TestFindFrom: P12.2, the least place that is not below from, and a place of the line alone.
func TestFindFrom(t *testing.T) {
	for _, x := range []struct {
		pattern, line string
		mode          api.Mode
		from          int
		want          api.Span
	}{
		{"a", "aab", neither, 0, api.Span{From: 0, To: 1}},
		{"a", "aab", neither, 1, api.Span{From: 1, To: 2}},
		{"a*", "aab", neither, 1, api.Span{From: 1, To: 2}},
		{"a*", "aab", neither, 2, api.Span{From: 2, To: 2}},
		{"a*", "aab", neither, 3, api.Span{From: 3, To: 3}},
		{"$", "aab", neither, 0, api.Span{From: 3, To: 3}},
		{`^\|b`, "aab", neither, 1, api.Span{From: 2, To: 3}},
		{".*", "éa", chars, 2, api.Span{From: 2, To: 3}},
		{`$`, "é", chars, 0, api.Span{From: 2, To: 2}},
		{`[^b]`, "\xe2\x82€", chars, 0, api.Span{From: 2, To: 5}},
	} {
		if part, is, e := relate.Find(of(t, x.pattern, x.mode), x.line, x.from, x.mode); e != api.OK || !is || part != x.want {
			t.Errorf("%q in %q from %d, %v: %v, %v, %v, not %v", x.pattern, x.line, x.from, x.mode, part, is, e, x.want)
		}
	}
}

// TestEndsExamples: P12.2, the chapter's examples, and some beside them.
func TestEndsExamples(t *testing.T) {
	for _, x := range []struct {
		pattern, line string
		mode          api.Mode
		at            int
		want          []int
	}{
		{"a*", "aab", neither, 0, []int{0, 1, 2}},
		{"a*", "aab", neither, 1, []int{1, 2}},
		{"a*", "aab", neither, 3, []int{3}},
		{`\(a*\)\1`, "aaa", neither, 0, []int{0, 2}},
		{"b", "aab", neither, 0, nil},
		{`a\|ab\|a*`, "aab", neither, 0, []int{0, 1, 2}},
		{`a\{2,3\}`, "aaaaa", neither, 1, []int{3, 4}},
		{`a\{2,\}`, "aaaaa", neither, 1, []int{3, 4, 5}},
		{`\(a*\)*\1`, "aa", neither, 0, []int{2}},
		{`\(a*\)\{1,\}\1`, "aa", neither, 0, []int{0, 2}},
		{`\(a*\)\{1,1\}\1`, "aaaa", neither, 0, []int{0, 2, 4}},
		{`\(\(a\)\|b\)*\2`, "aba", neither, 0, []int{3}},
		{`^`, "ab", neither, 1, nil},
		{`$`, "ab", neither, 2, []int{2}},
		{`.*`, "aé\xc3", chars, 0, []int{0, 1, 3}},
		{`.*`, "aé\xc3", neither, 0, []int{0, 1, 2, 3, 4}},
		{`\(.\)\1*`, "aAaAb", fold, 0, []int{1, 2, 3, 4}},
		{`\(.\)\1*`, "aAaAb", neither, 0, []int{1}},
		{`\(é\)\1*`, "éÉé", both, 0, []int{2}},
		{`\([[.-.]]\)\1*`, "-\r-M", fold, 0, []int{1}},
		{`a\{0\}b`, "ab", neither, 1, []int{2}},
		{`\(\(a\)\{0\}b\)\2`, "ba", neither, 0, nil},
		{`\(b\|b*\(c*\)\)*\2`, "b", neither, 0, []int{1}},
		{`[^a]`, "b", neither, 1, nil},
		{`[^a]`, "b", chars, 1, nil},
		{`[^a]\{3\}`, "\x00\x00\x00\x00", chars, 0, []int{3}},
	} {
		if l, e := relate.Ends(of(t, x.pattern, x.mode), x.line, x.at, x.mode); e != api.OK || !slices.Equal(l, x.want) {
			t.Errorf("%q in %q from %d, %v: %v, %v, not %v", x.pattern, x.line, x.at, x.mode, l, e, x.want)
		}
	}
}

// isRefused: P12.1, all three calls answer an error, and nothing else.
func isRefused(t *testing.T, n api.Node, line string, mode api.Mode, at int, part api.Span, want api.Errno) {
	t.Helper()
	if l, e := relate.Ends(n, line, at, mode); e != want || len(l) > 0 {
		t.Errorf("Ends(%s, %q, %d, %v): %v, %v, not %v", short(n.Kind), line, at, mode, l, e, want)
	}
	if found, is, e := relate.Find(n, line, at, mode); e != want || is || found != (api.Span{}) {
		t.Errorf("Find(%s, %q, %d, %v): %v, %v, %v, not %v", short(n.Kind), line, at, mode, found, is, e, want)
	}
	if p, is, e := relate.Prove(n, line, part, mode); e != want || is || !reflect.DeepEqual(p, api.Proof{}) {
		t.Errorf("Prove(%s, %q, %v, %v): %s, %v, %v, not %v", short(n.Kind), line, part, mode, short(p), is, e, want)
	}
}

// TestLimits: P12.1, each limit, and what is just within it.
func TestLimits(t *testing.T) {
	a := char('a')
	for _, x := range []struct {
		what string
		n    api.Node
		line string
		want api.Errno
	}{
		{"size 10000", rep(rep(a, 66, 66), 50, 50), "a", api.OK},
		{"size 10001", rep(rep(a, 45, 45), 73, 73), "a", api.ErrSize},
		{"a size far above", rep(rep(rep(a, 255, 255), 255, 255), 255, 255), "a", api.ErrSize},
		{"60 nodes", cat(many(a, 59)...), "a", api.OK},
		{"61 nodes", cat(many(a, 60)...), "a", api.ErrMany},
		{"2000 nodes", cat(many(a, 1999)...), "a", api.ErrMany},
		{"2001 nodes", cat(many(a, 2000)...), "a", api.ErrMany},
		{"two groups referred to", cat(group(1, a), group(2, a), group(3, a), back(3), back(1), back(3), back(1)), "a", api.OK},
		{"three groups referred to", cat(group(1, a), group(2, a), group(3, a), back(3), back(1), back(2)), "a", api.ErrMany},
		{"29 groups", cat(groups(29)...), "a", api.OK},
		{"24 bytes", a, strings.Repeat("a", 24), api.OK},
		{"25 bytes", a, strings.Repeat("a", 25), api.ErrLong},
		{"a thousand bytes", a, strings.Repeat("a", 1000), api.ErrLong},
	} {
		if e := refusal(x.n, x.line, neither, 0); e != x.want {
			t.Errorf("%s: the chapter says %v", x.what, e)
		}
		if x.want != api.OK {
			isRefused(t, x.n, x.line, neither, 0, api.Span{}, x.want)
			continue
		}
		_, e1 := relate.Ends(x.n, x.line, 0, neither)
		_, _, e2 := relate.Find(x.n, x.line, 0, neither)
		_, _, e3 := relate.Prove(x.n, x.line, api.Span{To: 1}, neither)
		if e1 != api.OK || e2 != api.OK || e3 != api.OK {
			t.Errorf("%s: %v, %v, %v", x.what, e1, e2, e3)
		}
	}
	// By characters a class with one above 127 counts 16: so the mode is asked for a size.
	wide := rep(rep(set('a', 'a', 128, 128), 25, 25), 30, 30)
	isRefused(t, wide, "a", chars, 0, api.Span{}, api.ErrSize)
	if _, e := relate.Ends(wide, "a", 0, neither); e != api.OK {
		t.Errorf("by bytes: %v", e)
	}
}

// groups is so many groups, one behind the other, each without bytes.
func groups(n int) []api.Node {
	var l []api.Node
	for i := range n {
		l = append(l, group(i+1, empty()))
	}
	return l
}

// TestPlaces: P12.1, what is no place of the line.
func TestPlaces(t *testing.T) {
	e := "aé\xe2\x82b€"
	for _, x := range []struct {
		line string
		mode api.Mode
		at   int
		want api.Errno
	}{
		{"ab", neither, -1, api.ErrArg}, {"ab", neither, 0, api.OK}, {"ab", neither, 2, api.OK}, {"ab", neither, 3, api.ErrArg},
		{"", neither, 0, api.OK}, {"", neither, 1, api.ErrArg}, {"", chars, 0, api.OK}, {"", chars, -1, api.ErrArg}, {"", chars, 1, api.ErrArg},
		{e, chars, 0, api.OK}, {e, chars, 1, api.OK}, {e, chars, 2, api.ErrArg}, {e, chars, 3, api.OK}, {e, chars, 4, api.OK}, {e, both, 5, api.OK},
		{e, chars, 6, api.OK}, {e, chars, 7, api.ErrArg}, {e, both, 8, api.ErrArg}, {e, chars, 9, api.OK}, {e, chars, 10, api.ErrArg},
		{e, neither, 2, api.OK}, {e, fold, 7, api.OK}, {e, fold, 10, api.ErrArg},
		{"ab", neither, 1 << 62, api.ErrArg}, {"ab", chars, -1 << 63, api.ErrArg},
	} {
		n := star(set('-', '-'))
		if x.want != api.OK {
			isRefused(t, n, x.line, x.mode, x.at, api.Span{From: x.at, To: x.at}, x.want)
			isRefused(t, n, x.line, x.mode, x.at, api.Span{From: 0, To: x.at}, x.want)
			isRefused(t, n, x.line, x.mode, x.at, api.Span{From: x.at, To: len(x.line)}, x.want)
			continue
		}
		if l, e := relate.Ends(n, x.line, x.at, x.mode); e != api.OK || !slices.Equal(l, []int{x.at}) {
			t.Errorf("Ends in %q at %d, %v: %v, %v", x.line, x.at, x.mode, l, e)
		}
		if part, is, e := relate.Find(n, x.line, x.at, x.mode); e != api.OK || !is || part != (api.Span{From: x.at, To: x.at}) {
			t.Errorf("Find in %q from %d, %v: %v, %v, %v", x.line, x.at, x.mode, part, is, e)
		}
		if p, is, e := relate.Prove(n, x.line, api.Span{From: x.at, To: x.at}, x.mode); e != api.OK || !is || !reflect.DeepEqual(p, proof(x.at, x.at)) {
			t.Errorf("Prove in %q at %d, %v: %v, %v, %v", x.line, x.at, x.mode, p, is, e)
		}
	}
	for _, part := range []api.Span{{From: 1, To: 0}, {From: 2, To: 1}} {
		if p, is, e := relate.Prove(star(char('a')), "aa", part, neither); e != api.ErrArg || is || !reflect.DeepEqual(p, api.Proof{}) {
			t.Errorf("Prove of %v: %v, %v, %v", part, p, is, e)
		}
	}
}

// TestErrorsOrder: P12.1, of several errors the one that is named first.
func TestErrorsOrder(t *testing.T) {
	a, long := char('a'), strings.Repeat("a", 25)
	back3 := func(n api.Node) api.Node {
		return cat(group(1, a), group(2, a), group(3, n), back(1), back(2), back(3))
	}
	large := rep(rep(a, 255, 255), 255, 255)
	for _, x := range []struct {
		what string
		n    api.Node
		line string
		at   int
		want api.Errno
	}{
		{"no right tree, size, many, long, place", cat(append(many(large, 60), empty())...), long, -1, api.ErrTree},
		{"a reference ahead of its group", cat(append(many(large, 60), back(1), group(1, a))...), long, -1, api.ErrBack},
		{"2000 nodes ahead of one", cat(many(large, 1000)...), long, -1, api.ErrMany},
		{"too deep", nested(41), long, -1, api.ErrDeep},
		{"31 groups", cat(append(groups(31), large)...), long, -1, api.ErrMany},
		{"size, many nodes, long, place", cat(many(large, 60)...), long, -1, api.ErrSize},
		{"size, many references, long, place", back3(large), long, -1, api.ErrSize},
		{"many nodes, long, place", cat(many(a, 60)...), long, -1, api.ErrMany},
		{"many references, long, place", back3(a), long, -1, api.ErrMany},
		{"long, place", a, long, -1, api.ErrLong},
		{"place", a, "a", -1, api.ErrArg},
	} {
		if e := refusal(x.n, x.line, neither, x.at); e != x.want {
			t.Errorf("%s: the chapter says %v", x.what, e)
		}
		isRefused(t, x.n, x.line, neither, x.at, api.Span{From: x.at, To: x.at}, x.want)
		isRefused(t, x.n, x.line, neither, x.at, api.Span{From: 1, To: x.at}, x.want)
	}
	isRefused(t, a, "a", fold, 0, api.Span{}, api.ErrTree)
	isRefused(t, char(256), "a", neither, 0, api.Span{}, api.ErrTree)
}

// nested is nodes within one another, so deep.
func nested(deep int) api.Node {
	n := char('a')
	for range deep - 1 {
		n = rep(n, 1, 1)
	}
	return n
}

// TestWrongTrees: P1 and P12.1, trees that are not right, or have no end.
func TestWrongTrees(t *testing.T) {
	a := char('a')
	for _, n := range []api.Node{
		{}, {Kind: -1}, {Kind: 10}, cat(), cat(a), cat(a, empty()), alt(), alt(a), rep(a, -1, 2), rep(a, 2, 1), rep(a, 0, 256), rep(empty(), 0, 1), rep(a, 0, -2),
		set(2, 1), set(0, 256), {Kind: api.NEmpty, N: 1}, {Kind: api.NGroup, N: 1}, {Kind: api.NRep, Max: 1}, group(0, a), group(2, a), back(0), back(1), back(10), group(1, back(1)),
		{Kind: api.NSet, Kids: []api.Node{a}}, cat(a, begin()), cat(end(), a),
		endless(rep(a, 0, 1)), endless(group(1, a)), endless(cat(a, a)), endless(alt(a, a)),
	} {
		e := tree.Right(n, neither)
		if e == api.OK {
			t.Errorf("%s is right", short(n.Kind))
		}
		isRefused(t, n, "a", neither, 0, api.Span{}, e)
		for _, p := range []api.Proof{{}, proof(0, 1), proof(0, 1, proof(0, 1)), which(0, proof(0, 1))} {
			if relate.Check(n, "a", p, neither) {
				t.Errorf("Check of a tree that is not right: %d, %v", n.Kind, p)
			}
		}
	}
}

// TestProveExamples: P12.4, proofs of which there is one alone.
func TestProveExamples(t *testing.T) {
	for _, x := range []struct {
		pattern, line string
		mode          api.Mode
		want          api.Proof
	}{
		{"ab", "ab", neither, proof(0, 2, proof(0, 1), proof(1, 2))},
		{"", "ab", neither, proof(0, 0)},
		{"a", "a", neither, proof(0, 1)},
		{"^", "ab", neither, proof(0, 0)},
		{"$", "ab", neither, proof(2, 2)},
		{"b$", "ab", neither, proof(1, 2, proof(1, 2), proof(2, 2))},
		{"a*", "aab", neither, proof(0, 2, proof(0, 1), proof(1, 2))},
		{"a*", "b", neither, proof(1, 1)},
		{`\(a\)`, "a", neither, proof(0, 1, proof(0, 1))},
		{`a\|b\|c`, "ab", neither, which(1, proof(1, 2))},
		{`\(a\|ab\)\1`, "abab", neither, proof(0, 4, proof(0, 2, which(1, proof(0, 2, proof(0, 1), proof(1, 2)))), proof(2, 4))},
		{`\(a\{0,1\}\)\{2\}b\1c`, "abc", neither, proof(0, 3,
			proof(0, 1, proof(0, 1, proof(0, 1, proof(0, 1))), proof(1, 1, proof(1, 1))), proof(1, 2), proof(2, 2), proof(2, 3))},
		{`\(\)\{3\}`, "", neither, proof(0, 0, proof(0, 0, proof(0, 0)), proof(0, 0, proof(0, 0)), proof(0, 0, proof(0, 0)))},
		{".é", "€é", chars, proof(0, 5, proof(0, 3), proof(3, 5))},
		{`\(a\)\1`, "aA", fold, proof(0, 2, proof(0, 1, proof(0, 1)), proof(1, 2))},
	} {
		n := of(t, x.pattern, x.mode)
		part := api.Span{From: x.want.From, To: x.want.To}
		if p, is, e := relate.Prove(n, x.line, part, x.mode); e != api.OK || !is || !reflect.DeepEqual(p, x.want) {
			t.Errorf("Prove of %q in %q, %v: %v, %v, %v, not %v", x.pattern, x.line, part, p, is, e, x.want)
		}
		if !relate.Check(n, x.line, x.want, x.mode) {
			t.Errorf("Check of %q in %q: not %v", x.pattern, x.line, x.want)
		}
	}
	for _, part := range []api.Span{{From: 0, To: 1}, {From: 1, To: 2}, {From: 0, To: 0}, {From: 1, To: 3}} {
		if p, is, e := relate.Prove(of(t, "ab", neither), "abb", part, neither); e != api.OK || is || !reflect.DeepEqual(p, api.Proof{}) {
			t.Errorf("Prove of %v: %v, %v, %v", part, p, is, e)
		}
	}
}

// TestLongest: P12.2, P12.4 and P12.5 at the limits: lines of 24 bytes, nodes by the dozen, turns by the hundred.
func TestLongest(t *testing.T) {
	deep := "a*"
	for range 12 {
		deep = `\(` + deep + `\)*`
	}
	told := map[string]int{}
	for _, x := range []struct {
		pattern string
		ends    func(k int) bool // of 24 times a: is this one an end?
	}{
		{`\(a*\)*\1`, func(k int) bool { return k > 1 }},
		{`\(\(a*\)*\)*\1\2`, func(k int) bool { return k > 2 }},
		{deep, func(k int) bool { return true }},
		{deep + `\1\9`, func(k int) bool { return k > 2 }},
		{`a\{255\}\{13\}`, func(k int) bool { return false }},
		{`\(a*\)\{255\}\{5\}`, func(k int) bool { return true }},
		{`\(a\{0,1\}\)\{255\}\1b*`, func(k int) bool { return true }},
		{`\(aa\)\{3,\}\1`, func(k int) bool { return k >= 8 && k%2 == 0 }},
		{`\(aaa\)\{2,255\}\1\{2\}`, func(k int) bool { return k >= 12 && k%3 == 0 }},
		{`\(a*\)\(a*\)\1\2\1`, func(k int) bool { return k != 1 }},
		{`\(a\{2,3\}\)\{4,5\}`, func(k int) bool { return k >= 8 && k <= 15 }},
		{`\(a\{5\}\)\{0,2\}a\{2\}`, func(k int) bool { return k == 2 || k == 7 || k == 12 }},
		{`\(\(a*\)\{20\}\)\{20\}\2aa`, func(k int) bool { return k >= 2 }},
		{`\(a*\)\(\(a*\)\{50\}\)\{7\}\1$`, func(k int) bool { return k == 24 }},
	} {
		n := of(t, x.pattern, neither)
		line := strings.Repeat("a", 24)
		var want []int
		for k := range 25 {
			if x.ends(k) {
				want = append(want, k)
			}
		}
		l, e := relate.Ends(n, line, 0, neither)
		if e != api.OK || !slices.Equal(l, want) {
			t.Errorf("Ends of %.30q: %v, %v, not %v", x.pattern, l, e, want)
		}
		var first *api.Span
		if len(want) > 0 {
			first = &api.Span{To: slices.Max(want)}
		}
		isFound(t, n, line, 0, neither, first, told)
		for k := range 25 {
			isProved(t, n, line, api.Span{To: k}, neither, x.ends(k), told)
		}
	}
	enough(t, told, 50, "proved", "unproved")
}

// TestSixty: P12.5, trees of up to 60 nodes in lines of up to 24 bytes: what the calls tell goes together.
func TestSixty(t *testing.T) {
	next := numbers(60)
	told := map[string]int{}
	for i := range 700 {
		mk := &maker{next: next, mode: modes()[i%4], bounds: []int{0, 0, 0, 1, 2, 5}}
		n := mk.pattern(1)
		var line strings.Builder
		for line.Len() < 20 {
			line.WriteString(alphabet(mk.mode)[next(2+i%2)])
		}
		if tree.Count(n) < 15 || refusal(n, line.String(), mk.mode) != api.OK {
			continue
		}
		isOneAnswer(t, n, line.String(), mk.mode, told)
	}
	enough(t, told, 50, "found", "none", "proved", "unproved")
}

// isOneAnswer: Find tells the least place from which there is an end, and the greatest one; each end has a proof, and no other place.
func isOneAnswer(t *testing.T, n api.Node, line string, mode api.Mode, told map[string]int) {
	t.Helper()
	var first *api.Span
	for _, at := range slices.Backward(matcher{line, mode}.places()) {
		l, e := relate.Ends(n, line, at, mode)
		if e != api.OK || !slices.IsSorted(l) || len(slices.Compact(slices.Clone(l))) != len(l) {
			t.Errorf("Ends(%s, %q, %d, %v): %v, %v", short(n), line, at, mode, l, e)
		}
		if len(l) > 0 {
			first = &api.Span{From: at, To: l[len(l)-1]}
		}
		isFound(t, n, line, at, mode, first, told)
		for _, to := range (matcher{line, mode}).places() {
			if to >= at {
				isProved(t, n, line, api.Span{From: at, To: to}, mode, slices.Contains(l, to), told)
			}
		}
		least, most := measure.Widths(n, mode)
		for _, to := range l {
			if to-at < least || most != api.Infinite && to-at > most {
				t.Errorf("Ends(%s, %q, %d, %v): %d is too near or far", short(n), line, at, mode, to)
			}
		}
	}
}

// lists is all lists of a proof, to be written into.
func lists(p api.Proof) [][]api.Proof {
	l := [][]api.Proof{p.Kids}
	for _, kid := range p.Kids {
		l = append(l, lists(kid)...)
	}
	return l
}

// TestMemoryOfAnswers: P3, nothing that is handed in is written into, and what is answered is new memory, spare room too.
func TestMemoryOfAnswers(t *testing.T) {
	n := of(t, `\(\(a\|b\)*\)\1\{1,2\}\|a*`, neither)
	was, line := copied(n), "abababab"
	first, _ := relate.Ends(n, line, 0, neither)
	p, is, _ := relate.Prove(n, line, api.Span{To: 4}, neither)
	if !is || len(first) < 3 {
		t.Fatalf("%v, %v", first, is)
	}
	kept, keptProof := slices.Clone(first), copiedProof(p)
	second, _ := relate.Ends(n, line, 0, neither)
	again, _, _ := relate.Prove(n, line, api.Span{To: 4}, neither)
	for i := range second[:cap(second)] {
		second[:cap(second)][i] = -7
	}
	for _, l := range lists(again) {
		for i := range l[:cap(l)] {
			l[:cap(l)][i] = api.Proof{From: -7}
		}
	}
	if !slices.Equal(first, kept) || !reflect.DeepEqual(p, keptProof) {
		t.Errorf("%v, %v were changed by later answers", first, p)
	}
	relate.Find(n, line, 0, neither)
	relate.Check(n, line, p, neither)
	if !reflect.DeepEqual(n, was) || !reflect.DeepEqual(p, keptProof) {
		t.Errorf("%v, %v were changed", n, p)
	}
	// Each list, in one answer, has its memory alone: what is written behind it is in no other one.
	for i := range lists(p) {
		q, _, _ := relate.Prove(n, line, api.Span{To: 4}, neither)
		l := lists(q)
		for j := len(l[i]); j < cap(l[i]); j++ {
			l[i][:cap(l[i])][j] = api.Proof{From: -7}
		}
		if !reflect.DeepEqual(q, keptProof) {
			t.Errorf("behind the list %d another one begins", i)
		}
	}
}

// TestSpareRoom: P3, what stands behind a tree's or a proof's lists is not written into.
func TestSpareRoom(t *testing.T) {
	kids := []api.Node{char('a'), star(char('b')), char('x')}
	n := cat(kids[:2]...)
	proofs := []api.Proof{proof(0, 1), proof(1, 2, proof(1, 2)), proof(7, 8)}
	p := proof(0, 2, proofs[:2]...)
	relate.Ends(n, "ab", 0, neither)
	relate.Find(n, "ab", 0, neither)
	relate.Prove(n, "ab", api.Span{To: 2}, neither)
	if !relate.Check(n, "ab", p, neither) {
		t.Error("no proof")
	}
	if !reflect.DeepEqual(kids[2], char('x')) || !reflect.DeepEqual(proofs[2], proof(7, 8)) {
		t.Errorf("%v, %v", kids[2], proofs[2])
	}
}

// TestSameAgain: P4, the same arguments, the same answers.
func TestSameAgain(t *testing.T) {
	n := of(t, `\(\(a*\)\|\(b*\)\|.\)*\2\3`, neither)
	line := "aabbabaabbaab"
	p, _, _ := relate.Prove(n, line, api.Span{To: 13}, neither)
	for range 20 {
		if q, _, _ := relate.Prove(n, line, api.Span{To: 13}, neither); !reflect.DeepEqual(p, q) {
			t.Fatalf("%v, %v", p, q)
		}
	}
}
