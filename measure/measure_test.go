package measure_test

import (
	"slices"
	"strings"
	"testing"

	"dredge/api"
	"dredge/measure"
	"dredge/sets"
	"dredge/tree"
)

// TestExamples: the chapter's.
func TestExamples(t *testing.T) {
	isUsed(t, of(t, `\(a\)\(b\)\2\2`, neither), neither, 2)
	hasSize(t, of(t, "ab*", neither), neither, 6)
	hasSize(t, of(t, `\(a\)\{3\}`, neither), neither, 15)
	hasSize(t, of(t, "[^a]", chars), chars, 33)
	hasWidths(t, of(t, `a\{2,3\}b*`, neither), neither, 2, api.Infinite)
	hasWidths(t, of(t, ".", chars), chars, 1, 4)
	isAnchored(t, of(t, "^a$", neither), neither, true, true)
	isAnchored(t, of(t, "a$", neither), neither, false, true)
	isAnchored(t, of(t, `\(^a\)*`, neither), neither, false, false)
	hasFirst(t, of(t, "a*b", neither), neither, "ab", false)
	hasFirst(t, of(t, `\(a*\)\1`, neither), neither, "a", true)
	hasLiteral(t, of(t, `a\(b\)\{2\}`, neither), neither, "abb")
	hasPrefix(t, of(t, "[ab]", neither), neither, "")
	hasPrefix(t, of(t, "^ab*c", neither), neither, "a")
	hasPrefix(t, of(t, `\(ab\)\+c`, neither), neither, "ab")
}

// isUsed: P11.1, Used and Free.
func isUsed(t *testing.T, n api.Node, mode api.Mode, want ...int) {
	t.Helper()
	if l := measure.Used(n, mode); !slices.Equal(l, want) {
		t.Errorf("Used(%s, %v): %v, not %v", short(n), mode, l, want)
	}
	if free := measure.Free(n, mode); free != (len(want) == 0) {
		t.Errorf("Free(%s, %v): %v", short(n), mode, free)
	}
}

// TestUsed: P11.1, rising, each once, wherever they stand.
func TestUsed(t *testing.T) {
	for _, mode := range modes() {
		isUsed(t, of(t, `\(a\)\(b\)\2\2`, mode), mode, 2)
		isUsed(t, of(t, `\(a\)\(b\)\2\1\2`, mode), mode, 1, 2)
		isUsed(t, of(t, `\(a\)\(\1*\|b\{0\}\)\{0\}`, mode), mode, 1)
		isUsed(t, of(t, `\(a\)\|\(b\)\|\2\{0\}`, mode), mode, 2)
		isUsed(t, of(t, `\(a\(b\)\(c\2\)\)\3\|x\1`, mode), mode, 1, 2, 3)
		for _, pattern := range []string{"", "a", "^", "$", `a*\|\(b\)\{3\}[^c]`, `\(\)\(\)\(\)`, `\\1`} {
			isUsed(t, of(t, pattern, mode), mode)
		}
	}
}

// TestUsedNumbers: P11.1, all numbers that may be referred to, in any order.
func TestUsedNumbers(t *testing.T) {
	groups := cat()
	for i := 1; i <= 30; i++ {
		groups.Kids = append(groups.Kids, group(i, empty()))
	}
	isUsed(t, groups, neither)
	for some := 1; some < 512; some++ {
		n := copied(groups)
		var want []int
		for i := 9; i >= 1; i-- {
			if some>>(i-1)&1 == 1 {
				n.Kids = append(n.Kids, back(i), star(back(i)))
				want = append([]int{i}, want...)
			}
		}
		isUsed(t, n, neither, want...)
	}
	for i := 9; i >= 1; i-- {
		groups.Kids = append(groups.Kids, many(back(i), 100)...)
	}
	isUsed(t, groups, chars, 1, 2, 3, 4, 5, 6, 7, 8, 9)
}

// hasSize: P11.2, Size.
func hasSize(t *testing.T, n api.Node, mode api.Mode, want int) {
	t.Helper()
	if size := measure.Size(n, mode); size != want {
		t.Errorf("Size(%s, %v): %d, not %d", short(n), mode, size, want)
	}
}

// TestSizeKinds: P11.2, each line of its table.
func TestSizeKinds(t *testing.T) {
	for _, mode := range modes() {
		hasSize(t, empty(), mode, 1)
		hasSize(t, begin(), mode, 1)
		hasSize(t, end(), mode, 1)
		hasSize(t, char('0'), mode, 1)
		hasSize(t, set(), mode, 1)
		hasSize(t, cat(char('0'), char('1')), mode, 4)
		hasSize(t, cat(begin(), char('0'), char('1'), end()), mode, 8)
		hasSize(t, alt(empty(), empty(), empty()), mode, 6)
		hasSize(t, alt(cat(char('0'), char('1')), begin()), mode, 7)
		hasSize(t, group(1, empty()), mode, 3)
		hasSize(t, group(1, cat(char('0'), char('1'))), mode, 6)
		hasSize(t, cat(group(1, char('0')), back(1)), mode, 6)
		hasSize(t, cat(group(1, cat(char('0'), char('1'), char('2'))), back(1)), mode, 11)
		hasSize(t, rep(char('0'), 0, 0), mode, 3)
		hasSize(t, rep(char('0'), 0, 1), mode, 3)
		hasSize(t, rep(char('0'), 1, 1), mode, 3)
		hasSize(t, rep(char('0'), 0, 2), mode, 6)
		hasSize(t, rep(char('0'), 2, 2), mode, 6)
		hasSize(t, rep(char('0'), 7, 255), mode, 765)
		hasSize(t, rep(char('0'), 0, api.Infinite), mode, 3)
		hasSize(t, rep(char('0'), 1, api.Infinite), mode, 6)
		hasSize(t, rep(char('0'), 255, api.Infinite), mode, 768)
		hasSize(t, rep(rep(char('0'), 3, 3), 2, 4), mode, 44)
		hasSize(t, rep(rep(char('0'), 3, 3), 0, 0), mode, 11)
	}
}

// TestSizeOfSets: P11.2, with Chars by the ranges that have a number above 127.
func TestSizeOfSets(t *testing.T) {
	for _, x := range []struct {
		n    api.Node
		size int
	}{
		{set(127, 127), 1},
		{set(128, 128), 16},
		{set(127, 128), 16},
		{set(0, 1), 1},
		{set(0, 1, 3, 4, 126, 127), 1},
		{set(0, 1, 3, 128), 17},
		{set(0, 1, 3, 4, 126, 127, 200, 200), 17},
		{set(0, 1, 3, 4, 200, 200, 255, 255), 33},
		{set(128, 129, 131, 255), 32},
	} {
		hasSize(t, x.n, chars, x.size)
		hasSize(t, x.n, both, x.size)
		hasSize(t, x.n, neither, 1)
		hasSize(t, x.n, fold, 1)
	}
	hasSize(t, set(0x20ac, 0x20ac), chars, 16)
	hasSize(t, of(t, ".", chars), chars, 32)
	hasSize(t, of(t, "[^a]", chars), chars, 33)
	hasSize(t, of(t, "[^a]", neither), neither, 1)
	hasSize(t, of(t, "[^a]*", chars), chars, 35)
}

// TestSizeAtTheLimit: P11.2, up to 10000 as it is, above 10001.
func TestSizeAtTheLimit(t *testing.T) {
	forty := group(1, cat(many(char('0'), 18)...)) // 38, and 2 as a Kid of an NRep
	hasSize(t, rep(forty, 0, 249), neither, 9960)
	hasSize(t, rep(forty, 0, 250), neither, 10000)
	hasSize(t, rep(forty, 249, api.Infinite), neither, 10000)
	hasSize(t, rep(forty, 0, 251), neither, 10001)
	hasSize(t, rep(forty, 255, api.Infinite), neither, 10001)
	hasSize(t, cat(rep(forty, 0, 249), rep(char('1'), 0, 12), char('2')), neither, 10000)
	hasSize(t, cat(rep(forty, 0, 249), rep(char('1'), 0, 12), char('2'), char('3')), neither, 10001)
	hasSize(t, group(1, cat(rep(group(2, cat(many(char('0'), 18)...)), 0, 249), rep(char('1'), 0, 12))), neither, 10000)
	hasSize(t, group(1, alt(rep(group(2, cat(many(char('0'), 18)...)), 0, 249), rep(char('1'), 0, 12), empty())), neither, 10001)
	hasSize(t, rep(rep(forty, 0, 250), 0, 0), neither, 10001)
	wide := set()
	for c := 200; len(wide.Ranges) < 625; c += 2 {
		wide.Ranges = append(wide.Ranges, api.Range{Lo: c, Hi: c})
	}
	hasSize(t, wide, chars, 10000)
	wide.Ranges = append([]api.Range{{Lo: 10, Hi: 11}}, wide.Ranges...)
	hasSize(t, wide, chars, 10001)
	deep := char('0')
	for range 39 {
		deep = rep(deep, 255, 255)
	}
	hasSize(t, deep, neither, 10001)
	hasSize(t, cat(many(char('0'), 1999)...), neither, 3998)
}

// hasWidths: P11.3, Widths.
func hasWidths(t *testing.T, n api.Node, mode api.Mode, least, most int) {
	t.Helper()
	if a, b := measure.Widths(n, mode); a != least || b != most {
		t.Errorf("Widths(%s, %v): %d, %d; not %d, %d", short(n), mode, a, b, least, most)
	}
}

// TestWidthsKinds: P11.3, each line of its table.
func TestWidthsKinds(t *testing.T) {
	for _, mode := range modes() {
		hasWidths(t, empty(), mode, 0, 0)
		hasWidths(t, begin(), mode, 0, 0)
		hasWidths(t, end(), mode, 0, 0)
		hasWidths(t, set(), mode, 0, 0)
		for _, x := range []struct {
			pattern     string
			least, most int
		}{
			{"a", 1, 1},
			{"abc", 3, 3},
			{"^ab$", 2, 2},
			{`a\|bcd\|ef`, 1, 3},
			{`abc\|`, 0, 3},
			{`a*\|bcd`, 0, api.Infinite},
			{`bcd\|aa*`, 1, api.Infinite},
			{`\(ab\)`, 2, 2},
			{`\(ab\|c\)\1`, 2, 4},
			{`\(ab*\)\1\1`, 3, api.Infinite},
			{`\(a\(b\)\)\{0\}\2`, 1, 1},
			{`\(abc\)\|\1`, 3, 3},
			{`a\{2,3\}b*`, 2, api.Infinite},
			{`\(abc\)\{2,5\}`, 6, 15},
			{`\(abc\)\{2,\}`, 6, api.Infinite},
			{`a\{0\}`, 0, 0},
			{`a*\{0\}`, 0, 0},
			{`a*\{2\}`, 0, api.Infinite},
			{`\(\)*`, 0, 0},
			{`\(\)\{3,255\}`, 0, 0},
			{`\(a\{0\}\)*`, 0, 0},
			{`\(\)\1*`, 0, 0},
			{`\(a*\)\1\{0\}`, 0, api.Infinite},
		} {
			hasWidths(t, of(t, x.pattern, mode), mode, x.least, x.most)
		}
	}
}

// TestWidthsOfSets: P11.3, with Chars by the least and the greatest character.
func TestWidthsOfSets(t *testing.T) {
	for _, x := range []struct{ c, width int }{
		{0, 1}, {127, 1}, {128, 2}, {255, 2}, {2047, 2}, {2048, 3}, {55295, 3}, {57344, 3}, {65535, 3}, {65536, 4}, {1114111, 4},
	} {
		for _, mode := range []api.Mode{chars, both} {
			hasWidths(t, char(x.c), mode, x.width, x.width)
			hasWidths(t, star(char(x.c)), mode, 0, api.Infinite)
			hasWidths(t, rep(char(x.c), 2, 5), mode, 2*x.width, 5*x.width)
			if x.c > 'z' {
				hasWidths(t, set('0', '0', x.c, x.c), mode, 1, x.width)
			}
			if x.c < 55296 {
				hasWidths(t, set(x.c, 55295, 57344, 1114111), mode, x.width, 4)
			}
		}
		if x.c < 256 {
			hasWidths(t, char(x.c), neither, 1, 1)
			hasWidths(t, set(x.c, 255), fold, 1, 1)
		}
	}
	hasWidths(t, of(t, ".", chars), chars, 1, 4)
	hasWidths(t, of(t, ".", neither), neither, 1, 1)
	hasWidths(t, of(t, `[é€]\{2\}`, chars), chars, 4, 6)
	hasWidths(t, of(t, `\([aé]\)\1\1`, chars), chars, 3, 6)
}

// TestWidthsAtTheLimit: P11.3, up to 1000000 as they are, above it 1000000 and Infinite.
func TestWidthsAtTheLimit(t *testing.T) {
	million := `a\{250\}\{200\}\{20\}`
	for _, x := range []struct {
		pattern     string
		least, most int
	}{
		{million, 1000000, 1000000},
		{million + "b", 1000000, api.Infinite},
		{"b" + million, 1000000, api.Infinite},
		{million + `b\{0\}`, 1000000, 1000000},
		{million + `\|b`, 1, 1000000},
		{million + `b\|b`, 1, api.Infinite},
		{million + `b\|` + million, 1000000, api.Infinite},
		{million + `\{1\}`, 1000000, 1000000},
		{million + `\{2\}`, 1000000, api.Infinite},
		{million + `\{255\}\{255\}\{255\}\{255\}\{255\}\{255\}\{255\}\{255\}`, 1000000, api.Infinite},
		{million + `\{2\}\{0\}`, 0, 0},
		{million + `\{2\}\{0,1\}`, 0, api.Infinite},
		{million + `\{2\}\{0,1\}\{0\}b`, 1, 1},
		{`a\{250\}\{200\}\{21\}`, 1000000, api.Infinite},
		{`\(a\{250\}\{200\}\)\{19\}\1`, 1000000, 1000000},
		{`\(a\{250\}\{200\}\)\{19\}\1b*`, 1000000, api.Infinite},
		{`\(a\{250\}\{200\}\)\{19\}\1\1`, 1000000, api.Infinite},
		{`\(a\{250\}\{200\}\)\{0,19\}\1`, 50000, 1000000},
		{`\(a\{255\}\)\{200\}\{200\}`, 1000000, api.Infinite},
		{`\(` + million + `c\)\1\{0\}`, 1000000, api.Infinite},
	} {
		hasWidths(t, of(t, x.pattern, neither), neither, x.least, x.most)
	}
	hasWidths(t, of(t, `[é€]\{250\}\{200\}\{10\}`, chars), chars, 1000000, api.Infinite)
	hasWidths(t, of(t, `[é€]\{250\}\{200\}\{9\}`, chars), chars, 900000, api.Infinite)
	hasWidths(t, of(t, `[aé]\{250\}\{200\}\{10\}`, chars), chars, 500000, 1000000)
	long := cat(many(rep(rep(char('a'), 250, 250), 200, 200), 20)...)
	hasWidths(t, long, neither, 1000000, 1000000)
	hasWidths(t, cat(append(long.Kids, char('a'))...), neither, 1000000, api.Infinite)
}

// isAnchored: P11.4, Anchored.
func isAnchored(t *testing.T, n api.Node, mode api.Mode, begins, ends bool) {
	t.Helper()
	if a, b := measure.Anchored(n, mode); a != begins || b != ends {
		t.Errorf("Anchored(%s, %v): %v, %v", short(n), mode, a, b)
	}
}

// TestAnchored: P11.4, each kind of nodes.
func TestAnchored(t *testing.T) {
	for _, x := range []struct {
		pattern      string
		begins, ends bool
	}{
		{"", false, false},
		{"a", false, false},
		{"^", true, false},
		{"$", false, true},
		{"^$", true, true},
		{"^a$", true, true},
		{"^a", true, false},
		{"a$", false, true},
		{"aa", false, false},
		{`a*\(^b\)`, false, false},
		{`\(a$\)b*`, false, false},
		{`\(\)\(^a\)`, false, false},
		{`\(^a\)b`, true, false},
		{`a\(b$\)`, false, true},
		{`\(^\)\{0\}a`, false, false},
		{`^a\|^b`, true, false},
		{`^a\|b`, false, false},
		{`b\|^a`, false, false},
		{`^a$\|^b`, true, false},
		{`^a\|^b$`, true, false},
		{`^a$\|$`, false, true},
		{`^a$\|^b$\|^`, true, false},
		{`^a$\|^b$\|^$`, true, true},
		{`^a$\|`, false, false},
		{`\(^a\|^b\)`, true, false},
		{`\(\(a$\)\)`, false, true},
		{`\(^a\)*`, false, false},
		{`\(^a\)\+`, true, false},
		{`\(^a$\)\?`, false, false},
		{`\(^a$\)\{1\}`, true, true},
		{`\(^a$\)\{1,2\}`, true, true},
		{`\(^a$\)\{255,\}`, true, true},
		{`\(^a$\)\{0\}`, false, false},
		{`\(^a$\)\{2\}*`, false, false},
		{`\(^a$\)*\{2\}`, false, false},
		{`\(^a$\)\{2\}\+`, true, true},
		{`\(^\)\1`, true, false},
		{`\($\)\1`, false, false},
		{`\(a\|^$\)\1`, false, false},
		{`\(^$\)\{0\}\1`, false, false},
		{`x\|\(^$\)\1`, false, false},
	} {
		for _, mode := range modes() {
			isAnchored(t, of(t, x.pattern, mode), mode, x.begins, x.ends)
		}
	}
	isAnchored(t, set(), neither, false, false)
}

// hasFirst: P11.5, First, by the bytes of a text.
func hasFirst(t *testing.T, n api.Node, mode api.Mode, text string, none bool) {
	t.Helper()
	if s, b := measure.First(n, mode); s != sets.Of(text) || b != none {
		t.Errorf("First(%s, %v): %v, %v; not %q, %v", short(n), mode, sets.Ranges(s), b, text, none)
	}
}

// TestFirst: P11.5, each kind of nodes.
func TestFirst(t *testing.T) {
	for _, mode := range modes() {
		hasFirst(t, set(), mode, "", false)
		for _, x := range []struct {
			pattern, bytes string
			none           bool
		}{
			{"", "", true},
			{"^", "", true},
			{"$", "", true},
			{"^$", "", true},
			{"1", "1", false},
			{"[1-4]", "1234", false},
			{"^1$", "1", false},
			{"12", "1", false},
			{"1*2", "12", false},
			{"1*2*", "12", true},
			{"1*2*3", "123", false},
			{"1*2*34", "123", false},
			{`1\?2\+3`, "12", false},
			{`\(\)\(1\)2`, "1", false},
			{`1\|2`, "12", false},
			{`1\|`, "1", true},
			{`\|1\|2`, "12", true},
			{`1\|2*\|34`, "123", true},
			{`\(12\|3*\)4`, "134", false},
			{`\(1*\)\1`, "1", true},
			{`\(1\)\1`, "1", false},
			{`\(1\)*\1`, "1", false},
			{`\(1\(2\)\)*\2`, "12", false},
			{`\(1\(2\)\)*\2*3`, "123", false},
			{`\(1\(2*\)\)*\2`, "12", true},
			{`\(1\(2\)\)\|\2`, "12", false},
			{`\(1\)\|\(2\)\|\1\|\2*`, "12", true},
			{`\(1\)\{0\}`, "", true},
			{`\(1\)\{0\}\1`, "1", false},
			{`\(1\(2\(3\)\)\)\{0\}\3`, "3", false},
			{`1\{0\}2`, "2", false},
			{`1\{0,2\}2`, "12", false},
			{`1\{2\}2`, "1", false},
			{`1\{2,\}2`, "1", false},
			{`\(1*\)\{2,\}2`, "12", false},
			{`\(1*\)\{2\}`, "1", true},
			{`\(1*\)\{0\}`, "", true},
			{`1*\{0\}*`, "", true},
			{`1\{0\}\{5\}`, "", true},
		} {
			hasFirst(t, of(t, x.pattern, mode), mode, x.bytes, x.none)
		}
	}
	hasFirst(t, cat(star(char('1')), set(), char('2')), neither, "1", false)
	hasFirst(t, of(t, "ab", fold), fold, "aA", false)
	hasFirst(t, of(t, `\(z*\)\1k`, both), both, "zZkK", false)
}

// leads is the first UTF-8 byte of each character, and so the first and the last character of each first byte.
func leads() [256]api.Range {
	var l [256]api.Range
	for c := 1114111; c >= 0; c-- {
		text := string(rune(c))
		if c >= 55296 && c <= 57343 {
			continue
		}
		if b := text[0]; l[b] == (api.Range{}) {
			l[b] = api.Range{Lo: c, Hi: c}
		}
		l[text[0]].Lo = c
	}
	return l
}

// TestFirstOfSets: P11.5, with Chars the first UTF-8 bytes, without the bytes.
func TestFirstOfSets(t *testing.T) {
	hasFirst(t, set(233, 233, 0x20ac, 0x20ac), chars, "\xc3\xe2", false)
	hasFirst(t, set(233, 233), neither, "\xe9", false)
	hasFirst(t, set(127, 128), chars, "\x7f\xc2", false)
	hasFirst(t, set(127, 128), neither, "\x7f\x80", false)
	hasFirst(t, set(55295, 55295, 57344, 57344), chars, "\xed\xee", false)
	hasFirst(t, set(2047, 2048), chars, "\xdf\xe0", false)
	hasFirst(t, set(65535, 65536), chars, "\xef\xf0", false)
	hasFirst(t, char(1114111), chars, "\xf4", false)
	all := ""
	for b, r := range leads() {
		if b > 0 && r == (api.Range{}) {
			continue
		}
		all += string([]byte{byte(b)})
		for _, c := range []int{r.Lo, r.Hi} {
			hasFirst(t, char(c), chars, string([]byte{byte(b)}), false)
		}
		if b < 128 {
			hasFirst(t, set(b, 127), chars, string([]byte{byte(b)})+rising(b+1, 127), false)
			continue
		}
		hasFirst(t, set(0, 0, r.Lo, r.Hi), chars, "\x00"+string([]byte{byte(b)}), false)
	}
	hasFirst(t, of(t, ".", chars), chars, all, false)
	if len(all) != 128+30+16+5 {
		t.Errorf("%d first bytes", len(all))
	}
	hasFirst(t, of(t, ".", neither), neither, rising(0, 255), false)
	hasFirst(t, of(t, "[^a]", chars), chars, strings.Replace(all, "a", "", 1), false)
}

// rising is the bytes from one to another, as a text.
func rising(from, to int) string {
	var l []byte
	for b := from; b <= to; b++ {
		l = append(l, byte(b))
	}
	return string(l)
}

// hasLiteral: P11.6, there is a Literal, which is the Prefix, too.
func hasLiteral(t *testing.T, n api.Node, mode api.Mode, want string) {
	t.Helper()
	if s, ok := measure.Literal(n, mode); s != want || !ok {
		t.Errorf("Literal(%s, %v): %.200q, %v; not %.200q", short(n), mode, s, ok, want)
	}
	if s := measure.Prefix(n, mode); s != want {
		t.Errorf("Prefix(%s, %v): %.200q, not %.200q", short(n), mode, s, want)
	}
}

// hasPrefix: P11.6, there is no Literal, but this Prefix.
func hasPrefix(t *testing.T, n api.Node, mode api.Mode, want string) {
	t.Helper()
	if s, ok := measure.Literal(n, mode); s != "" || ok {
		t.Errorf("Literal(%s, %v): %.200q, %v", short(n), mode, s, ok)
	}
	if s := measure.Prefix(n, mode); s != want {
		t.Errorf("Prefix(%s, %v): %d bytes %.200q, not %d bytes %.200q", short(n), mode, len(s), s, len(want), want)
	}
}

// TestLiteral: P11.6, trees that have one, which is their Prefix, too.
func TestLiteral(t *testing.T) {
	for _, mode := range modes() {
		for pattern, want := range map[string]string{
			"":                            "",
			"1":                           "1",
			"123":                         "123",
			`1\(2\)\{2\}`:                 "122",
			`\(1\(2\)\)3`:                 "123",
			`\(12\)\{3\}`:                 "121212",
			`\(1\{2\}3\)\{2\}`:            "113113",
			`1\{0\}`:                      "",
			`[12]\{0\}3`:                  "3",
			`\(1*\)\{0\}3`:                "3",
			`\(^1$\)\{0\}3`:               "3",
			`\(1\|2\)\{0\}3`:              "3",
			`\(1\)\1\{0\}3`:               "13",
			`1\{250\}\{250\}\{0\}3`:       "3",
			`\(1\{250\}\{250\}2\)\{0\}`:   "",
			`1*\{0\}`:                     "",
			`\(\)`:                        "",
			`\(\)\{255\}\{255\}\{255\}12`: "12",
			`\.\*\[`:                      ".*[",
		} {
			hasLiteral(t, of(t, pattern, mode), mode, want)
		}
	}
	for c := range 256 {
		hasLiteral(t, char(c), neither, string([]byte{byte(c)}))
		hasLiteral(t, char(c), chars, string(rune(c)))
	}
	for _, c := range []int{256, 2047, 2048, 55295, 57344, 65533, 65535, 65536, 1114111} {
		hasLiteral(t, char(c), chars, string(rune(c)))
		hasLiteral(t, rep(char(c), 3, 3), both, strings.Repeat(string(rune(c)), 3))
	}
	hasLiteral(t, of(t, "aé€", neither), neither, "aé€")
	hasLiteral(t, of(t, "aé€", chars), chars, "aé€")
	hasLiteral(t, of(t, "é€", fold), fold, "é€")
	hasLiteral(t, of(t, `é\(€\)\{2\}`, both), both, "é€€")
}

// TestPrefix: P11.6, trees without a Literal.
func TestPrefix(t *testing.T) {
	for _, mode := range modes() {
		hasPrefix(t, set(), mode, "")
		hasPrefix(t, cat(char('1'), set(), char('2')), mode, "1")
		for pattern, want := range map[string]string{
			"^":                             "",
			"$":                             "",
			"^$":                            "",
			"[12]":                          "",
			".":                             "",
			"^1":                            "1",
			"^12":                           "12",
			"^12$":                          "12",
			"12$":                           "12",
			"^12*3":                         "1",
			"^1*2":                          "",
			"1[23]4":                        "1",
			"12[34]*5":                      "12",
			`12\+3`:                         "12",
			`12\{3,\}4`:                     "1222",
			`12\{3,4\}4`:                    "1222",
			`12\{0,4\}4`:                    "1",
			`12\?4`:                         "1",
			`\(12\)\+3`:                     "12",
			`\(12\)\{2,3\}3`:                "1212",
			`\(12*\)\{2,3\}3`:               "1",
			`\(12*\)\{2\}`:                  "1",
			`\(^12\)\{2\}`:                  "12",
			`\(^1\)2`:                       "1",
			`\(^1\)\{2\}2`:                  "1",
			`\(^\)1`:                        "",
			`\(^\)\{0\}1\(23*\)4`:           "12",
			`1\(23*\)`:                      "12",
			`1\(\(23\)\(45*\)\)6`:           "1234",
			`1\(2$\)`:                       "12",
			`1\|1`:                          "",
			`11\|12`:                        "",
			`0\(1\|1\)`:                     "0",
			`\(1\)\1`:                       "1",
			`\(12\)\1\{2\}3`:                "12",
			`\(12\)\1\{0\}3*`:               "12",
			`1*`:                            "",
			`\(1\{2\}\)\{0,3\}`:             "",
			`\(\(12\)\{2\}\)\{3,\}`:         "121212121212",
			`\(\(12\)\{2,\}\)\{3\}`:         "1212",
			`\(\(12\)\{2,\}\)\{0,3\}`:       "",
			`\(\)\+1`:                       "",
			`\(\)\{2\}1\(\)\+2`:             "1",
			`\(\(\(12*\)\+3\)\{2\}4\)\{5\}`: "1",
		} {
			hasPrefix(t, of(t, pattern, mode), mode, want)
		}
	}
	hasPrefix(t, of(t, "a", fold), fold, "")
	hasPrefix(t, of(t, "1a2", both), both, "1")
	hasPrefix(t, of(t, "éa", both), both, "é")
	hasPrefix(t, of(t, "[é€]", chars), chars, "")
	hasPrefix(t, of(t, "é*", neither), neither, "\xc3")
	hasPrefix(t, of(t, "€[é€]", chars), chars, "€")
}

// TestLongTexts: P11.6, texts of 1000 bytes, and of more.
func TestLongTexts(t *testing.T) {
	a := func(n int) string { return strings.Repeat("a", n) }
	hasLiteral(t, of(t, `a\{250\}\{4\}`, neither), neither, a(1000))
	hasLiteral(t, of(t, `a\{250\}\{4\}\{1\}`, neither), neither, a(1000))
	hasLiteral(t, of(t, `\(a\{250\}\{4\}\)\(\)`, neither), neither, a(1000))
	hasLiteral(t, of(t, `a\{200\}\{4\}a\{200\}`, neither), neither, a(1000))
	hasLiteral(t, cat(many(char('a'), 1000)...), neither, a(1000))
	hasLiteral(t, cat(many(char(233), 500)...), chars, strings.Repeat("é", 500))
	hasPrefix(t, cat(many(char('a'), 1001)...), neither, a(1000))
	hasPrefix(t, cat(many(char('a'), 1999)...), neither, a(1000))
	hasPrefix(t, cat(many(char(233), 501)...), chars, strings.Repeat("é", 500))
	hasPrefix(t, cat(many(char(0x20ac), 334)...), chars, strings.Repeat("€", 334)[:1000])
	for pattern, want := range map[string]string{
		`a\{250\}\{4\}b`:                         a(1000),
		`ba\{250\}\{4\}`:                         "b" + a(999),
		`b*a\{250\}\{4\}`:                        "",
		`a\{250\}\{4\}b*`:                        a(1000),
		`a\{250\}\{5\}`:                          a(1000),
		`a\{250\}\{4,5\}`:                        a(1000),
		`a\{250\}\{4\}\{2\}`:                     a(1000),
		`a\{250\}\{5\}\{2\}`:                     a(1000),
		`a\{250\}\{5\}\{0,2\}`:                   "",
		`ba\{250\}\{5\}c`:                        "b" + a(999),
		`\(ba\{250\}\{5\}c\)\{3\}`:               "b" + a(999),
		`\(ba\{250\}\{3\}\)\{2,\}`:               "b" + a(750) + "b" + a(248),
		`\(ba\{250\}\{3\}\)\{2\}`:                "b" + a(750) + "b" + a(248),
		`\(ba\{250\}\{3\}c*\)\{2\}`:              "b" + a(750),
		`a\{255\}\{255\}\{255\}\{255\}\{255\}`:   a(1000),
		`\(a\{255\}\{255\}\{255\}\)\{255,\}`:     a(1000),
		`a\{250\}\{3\}b\{250\}c`:                 a(750) + strings.Repeat("b", 250),
		`^a\{250\}\{4\}`:                         a(1000),
		`^a\{250\}\{4\}b$`:                       a(1000),
		`a\{250\}\{3\}b\{249\}\(c*\)d`:           a(750) + strings.Repeat("b", 249),
		`a\{250\}\{3\}b\{249\}\(cc*\)d`:          a(750) + strings.Repeat("b", 249) + "c",
		`a\{250\}\{3\}b\{249\}\(cdc*\)d`:         a(750) + strings.Repeat("b", 249) + "c",
		`\(a\{250\}\{3\}b\{249\}\)\(c\{5\}d\)*e`: a(750) + strings.Repeat("b", 249),
	} {
		hasPrefix(t, of(t, pattern, neither), neither, want)
	}
}

// TestNotRight: of what is not right in the mode all calls answer zero values.
func TestNotRight(t *testing.T) {
	deep := char('0')
	for range 40 {
		deep = star(deep)
	}
	groups := empty()
	for i := range 31 {
		groups = group(31-i, groups)
	}
	for _, n := range []api.Node{
		{},
		{Kind: 10},
		{Kind: -1},
		cat(),
		cat(char('0')),
		cat(char('0'), empty()),
		alt(),
		alt(char('0')),
		alt(char('0'), alt(char('0'), char('1'))),
		{Kind: api.NGroup, N: 1},
		{Kind: api.NRep, Max: 1},
		{Kind: api.NRep, Max: 1, Kids: many(char('0'), 2)},
		{Kind: api.NSet, N: 1},
		{Kind: api.NEmpty, Kids: many(char('0'), 1)},
		group(2, empty()),
		star(begin()),
		star(cat(char('0'), char('1'))),
		cat(char('0'), begin()),
		cat(end(), char('0')),
		rep(char('0'), 2, 1),
		rep(char('0'), 0, 256),
		rep(char('0'), -1, 0),
		rep(char('0'), 0, -2),
		set(3, 2),
		set(-1, 2),
		set(1, 2, 3, 4),
		set(0, 1114111),
		set(55296, 55296),
		set(1114112, 1114112),
		back(0),
		back(10),
		back(1),
		group(1, back(1)),
		cat(back(1), group(1, empty())),
		groups,
		deep,
		cat(many(char('0'), 2000)...),
	} {
		for _, mode := range modes() {
			isNothing(t, n, mode)
		}
	}
	isNothing(t, char('a'), fold)
	isNothing(t, char('a'), both)
	isNothing(t, cat(group(1, set('A', 'A', 'a', 'a')), back(1), char('Z')), fold)
	isNothing(t, char(256), neither)
	isNothing(t, set(0, 256), fold)
	hasSize(t, char(256), chars, 16)
	hasSize(t, deep.Kids[0], neither, 1+2*39)
}

// TestEndless: P1, a tree that is within itself. (It can't be told.)
func TestEndless(t *testing.T) {
	endless := star(char('0'))
	endless.Kids[0] = endless
	wide := alt(char('0'), char('0'))
	wide.Kids[0] = group(1, wide)
	for _, n := range []api.Node{endless, wide} {
		for _, mode := range modes() {
			if !measured(n, mode).equal(answers{}) {
				t.Error("of an endless tree something is told")
			}
		}
	}
}

// TestGreatTrees: P1, of groups that refer to groups, many times each, and of all that a right tree may have.
func TestGreatTrees(t *testing.T) {
	n := cat(group(1, char('1')))
	for i := 2; i <= 9; i++ {
		n.Kids = append(n.Kids, group(i, cat(many(back(i-1), 200)...)))
	}
	hasWidths(t, n, neither, 1000000, api.Infinite)
	hasWidths(t, cat(n.Kids[:3]...), neither, 1+200+200*200, 1+200+200*200)
	hasFirst(t, n, neither, "1", false)
	hasPrefix(t, n, neither, "1")
	isUsed(t, n, neither, 1, 2, 3, 4, 5, 6, 7, 8)
	hasSize(t, n, neither, 8*402+12)
	every := set()
	for c := 1; c < 55000; c += 2 {
		every.Ranges = append(every.Ranges, api.Range{Lo: c, Hi: c})
	}
	hasSize(t, every, chars, 10001)
	hasWidths(t, every, chars, 1, 3)
	long := cat(many(rep(rep(rep(char('1'), 250, 250), 4, 4), 255, 255), 499)...)
	hasPrefix(t, long, neither, strings.Repeat("1", 1000))
	hasWidths(t, long, neither, 1000000, api.Infinite)
	if a, b := tree.Count(long), tree.Right(long, neither); a != 1997 || b != api.OK {
		t.Errorf("the long tree: %d, %v", a, b)
	}
}

// TestKeepsWhatIsGiven: P3 and P4, nothing is written into a tree, nor behind its lists; the same is told again; what is told is new memory.
func TestKeepsWhatIsGiven(t *testing.T) {
	room := many(group(1, alt(cat(begin(), set('[', '^', 'a', 'c')), star(char('.')))), 5)
	room[1], room[2], room[3] = rep(back(1), 2, 3), back(1), end()
	n := cat(room[:4]...)
	kept, behind := copied(n), copied(room[4])
	first := measured(n, neither)
	for range 3 {
		again := measured(n, neither)
		if !again.equal(first) {
			t.Errorf("again: %+v, not %+v", again, first)
		}
		for i := range again.used[:cap(again.used)] {
			again.used[:cap(again.used)][i] = 77
		}
	}
	if !slices.Equal(first.used, []int{1}) {
		t.Errorf("Used: %v", first.used)
	}
	if !tree.Same(n, kept) || !tree.Same(room[4], behind) {
		t.Error("what was handed in changed")
	}
}
