package show_test

import (
	"fmt"
	"slices"
	"strconv"
	"strings"
	"testing"

	"dredge/api"
	"dredge/show"
	"dredge/tree"
)

func empty() api.Node { return api.Node{Kind: api.NEmpty} }
func begin() api.Node { return api.Node{Kind: api.NBegin} }
func end() api.Node   { return api.Node{Kind: api.NEnd} }

func set(bounds ...int) api.Node { return api.Node{Kind: api.NSet, Ranges: ranges(bounds...)} }
func char(c int) api.Node        { return set(c, c) }

func cat(kids ...api.Node) api.Node { return api.Node{Kind: api.NCat, Kids: kids} }
func alt(kids ...api.Node) api.Node { return api.Node{Kind: api.NAlt, Kids: kids} }

func group(number int, kid api.Node) api.Node {
	return api.Node{Kind: api.NGroup, N: number, Kids: []api.Node{kid}}
}

func back(number int) api.Node { return api.Node{Kind: api.NBack, N: number} }

func rep(kid api.Node, least, most int) api.Node {
	return api.Node{Kind: api.NRep, Min: least, Max: most, Kids: []api.Node{kid}}
}

func star(kid api.Node) api.Node { return rep(kid, 0, api.Infinite) }

// many is a thing so many times, as Kids.
func many(n api.Node, times int) []api.Node {
	return slices.Repeat([]api.Node{n}, times)
}

// filled is things whose texts have so many bytes in all: so many of them that not their number is the limit.
func filled(size int) []api.Node {
	return append(many(char('0'), size%2), many(char('.'), size/2)...)
}

// written is a tree in memory of its own.
func written(n api.Node) api.Node {
	n.Ranges, n.Kids = slices.Clone(n.Ranges), slices.Clone(n.Kids)
	for i := range n.Kids {
		n.Kids[i] = written(n.Kids[i])
	}
	return n
}

func equal(a, b api.Node) bool {
	return a.Kind == b.Kind && a.N == b.N && a.Min == b.Min && a.Max == b.Max && slices.Equal(a.Ranges, b.Ranges) && slices.EqualFunc(a.Kids, b.Kids, equal)
}

// short is the beginning of what a tree looks like: some of them are too great to be read.
func short(n api.Node) string {
	s := fmt.Sprint(n)
	if len(s) > 300 {
		return s[:300] + ".."
	}
	return s
}

// isPrinted: Print tells this text.
func isPrinted(t *testing.T, n api.Node, mode api.Mode, want string) {
	t.Helper()
	if s, e := show.Print(n, mode); s != want || e != api.OK {
		t.Errorf("Print(%s, %v): %.200q, %v; not %.200q", short(n), mode, s, e, want)
	}
}

// isPrintedInAll: in all modes.
func isPrintedInAll(t *testing.T, n api.Node, want string) {
	t.Helper()
	for _, mode := range modes() {
		isPrinted(t, n, mode, want)
	}
}

// isNotPrinted: Print tells this error, and nothing beside it.
func isNotPrinted(t *testing.T, n api.Node, mode api.Mode, want api.Errno) {
	t.Helper()
	if s, e := show.Print(n, mode); s != "" || e != want {
		t.Errorf("Print(%s, %v): %.200q, %v; not %v", short(n), mode, s, e, want)
	}
}

// TestPrintExamples: the chapter's.
func TestPrintExamples(t *testing.T) {
	isPrinted(t, cat(begin(), rep(char('a'), 2, 5)), neither, `^a\{2,5\}`)
	isPrinted(t, group(1, alt(empty(), char('.'))), neither, `\(\|\.\)`)
}

// TestPrintKinds: P10.2, each line of its table.
func TestPrintKinds(t *testing.T) {
	isPrintedInAll(t, empty(), "")
	isPrintedInAll(t, begin(), "^")
	isPrintedInAll(t, end(), "$")
	isPrintedInAll(t, char('-'), "-")
	isPrintedInAll(t, char('^'), `\^`)
	isPrintedInAll(t, set('0', '9'), "[0-9]")
	isPrintedInAll(t, cat(char('0'), char('1'), char('2')), "012")
	isPrintedInAll(t, cat(begin(), end()), "^$")
	isPrintedInAll(t, cat(begin(), char('*'), end()), `^\*$`)
	isPrintedInAll(t, alt(char('0'), char('1'), char('2')), `0\|1\|2`)
	isPrintedInAll(t, alt(empty(), empty()), `\|`)
	isPrintedInAll(t, alt(empty(), cat(begin(), char('0')), empty(), end()), `\|^0\|\|$`)
	isPrintedInAll(t, group(1, empty()), `\(\)`)
	isPrintedInAll(t, group(1, alt(group(2, char('0')), begin())), `\(\(0\)\|^\)`)
	isPrintedInAll(t, cat(group(1, end()), char('1'), back(1), char('2')), `\($\)1\12`)
	isPrintedInAll(t, star(group(1, cat(char('{'), char('}')))), `\({}\)*`)
	isPrintedInAll(t, cat(star(char('*')), star(char('.'))), `\**\.*`)
	isPrintedInAll(t, rep(rep(rep(star(char('?')), 1, api.Infinite), 0, 1), 3, 3), `?*\+\?\{3\}`)
	isPrinted(t, set('A', 'A', 'a', 'a'), fold, "[Aa]")
	isPrinted(t, cat(char(0xc3), char(0xa9)), neither, "é")
	isPrinted(t, cat(char(0xc3), char(0xa9)), chars, "Ã©")
	isPrinted(t, star(char(0x10ffff)), both, "\xf4\x8f\xbf\xbf*")
}

// TestPrintBacks: P10.2, all numbers that may be referred to.
func TestPrintBacks(t *testing.T) {
	n := cat()
	want := ""
	for i := 1; i <= 30; i++ {
		n.Kids = append(n.Kids, group(i, empty()))
		want += `\(\)`
	}
	for i := 1; i <= 9; i++ {
		n.Kids = append(n.Kids, back(i), rep(back(10-i), i, i))
		want += fmt.Sprintf(`\%d\%d\{%d\}`, i, 10-i, i)
	}
	isPrintedInAll(t, n, want)
}

// TestPrintBounds: P10.2, all bounds of an NRep.
func TestPrintBounds(t *testing.T) {
	short := map[[2]int]string{{0, api.Infinite}: "*", {1, api.Infinite}: `\+`, {0, 1}: `\?`}
	for least := range 256 {
		for most := least - 1; most < 256; most++ {
			want, digits := "", strconv.Itoa(least)
			top := most
			switch most {
			case least - 1:
				top = api.Infinite
				want = `x\{` + digits + `,\}`
			case least:
				want = `x\{` + digits + `\}`
			default:
				want = `x\{` + digits + "," + strconv.Itoa(most) + `\}`
			}
			if s, ok := short[[2]int{least, top}]; ok {
				want = "x" + s
			}
			isPrinted(t, rep(char('x'), least, top), neither, want)
		}
	}
}

// TestPrintWrong: P10.2, the error of tree.Right.
func TestPrintWrong(t *testing.T) {
	deep := char('0')
	for range 40 {
		deep = star(deep)
	}
	groups := empty()
	for i := range 31 {
		groups = group(31-i, groups)
	}
	for _, x := range []struct {
		n    api.Node
		want api.Errno
	}{
		{api.Node{}, api.ErrTree},
		{api.Node{Kind: 10}, api.ErrTree},
		{api.Node{Kind: -1}, api.ErrTree},
		{cat(), api.ErrTree},
		{cat(char('0')), api.ErrTree},
		{alt(char('0'), alt(char('0'), char('1'))), api.ErrTree},
		{api.Node{Kind: api.NGroup, N: 1}, api.ErrTree},
		{api.Node{Kind: api.NRep, Max: 1}, api.ErrTree},
		{group(2, empty()), api.ErrTree},
		{star(begin()), api.ErrTree},
		{cat(char('0'), begin()), api.ErrTree},
		{rep(char('0'), 2, 1), api.ErrTree},
		{rep(char('0'), 0, 256), api.ErrTree},
		{set(3, 2), api.ErrTree},
		{set(-1, 2), api.ErrTree},
		{set(0, 1114111), api.ErrTree},
		{back(0), api.ErrTree},
		{back(10), api.ErrTree},
		{back(1), api.ErrBack},
		{group(1, back(1)), api.ErrBack},
		{groups, api.ErrMany},
		{deep, api.ErrDeep},
		{cat(many(char('0'), 2000)...), api.ErrMany},
	} {
		for _, mode := range modes() {
			if e := tree.Right(x.n, mode); e != x.want {
				t.Errorf("Right(%s, %v): %v, not %v", short(x.n), mode, e, x.want)
			}
			isNotPrinted(t, x.n, mode, x.want)
			isNotDrawn(t, x.n, mode, x.want)
		}
	}
	for _, mode := range []api.Mode{fold, both} {
		isNotPrinted(t, char('a'), mode, api.ErrTree)
		isNotDrawn(t, char('a'), mode, api.ErrTree)
	}
	isNotPrinted(t, char(256), neither, api.ErrTree)
	isPrinted(t, char(256), chars, "Ā")
}

// TestPrintEndless: P1, a tree that is within itself. (It can't be told.)
func TestPrintEndless(t *testing.T) {
	endless := star(char('0'))
	endless.Kids[0] = endless
	text, e := show.Print(endless, neither)
	lines, f := show.Draw(endless, neither)
	if text != "" || lines != "" || e != api.ErrDeep || f != api.ErrDeep {
		t.Errorf("of an endless tree: %v, %v", e, f)
	}
}

// TestPrintLong: P10.2, texts of just 2000 bytes, and of one more, whatever stands last.
func TestPrintLong(t *testing.T) {
	dots := func(n int) string { return strings.Repeat("0", n%2) + strings.Repeat(`\.`, n/2) }
	for _, x := range []struct {
		last api.Node
		text string
	}{
		{end(), "$"},
		{char('.'), `\.`},
		{set('0', '9'), "[0-9]"},
		{star(char('1')), "1*"},
		{rep(char('1'), 255, 255), `1\{255\}`},
		{group(1, empty()), `\(\)`},
		{group(1, alt(empty(), empty(), empty())), `\(\|\|\)`},
		{star(group(1, cat(group(2, char('1')), back(2)))), `\(\(1\)\2\)*`},
	} {
		for _, mode := range modes() {
			left := 2000 - len(x.text)
			isPrinted(t, cat(append(filled(left), x.last)...), mode, dots(left)+x.text)
			isNotPrinted(t, cat(append(filled(left+1), x.last)...), mode, api.ErrLong)
		}
	}
	for _, mode := range modes() {
		isPrinted(t, cat(many(char('0'), 1999)...), mode, strings.Repeat("0", 1999))
		isNotPrinted(t, cat(many(char('.'), 1001)...), mode, api.ErrLong)
		isPrinted(t, cat(many(char('.'), 1000)...), mode, strings.Repeat(`\.`, 1000))
		isPrinted(t, alt(many(empty(), 1001)...), mode, strings.Repeat(`\|`, 1000))
		isNotPrinted(t, alt(many(empty(), 1002)...), mode, api.ErrLong)
	}
}

// TestPrintLongOfBytes: P10.2, bytes are counted, no characters.
func TestPrintLongOfBytes(t *testing.T) {
	isPrinted(t, cat(many(char(0xe9), 1999)...), neither, strings.Repeat("\xe9", 1999))
	isPrinted(t, cat(many(char(0xe9), 1000)...), chars, strings.Repeat("é", 1000))
	isNotPrinted(t, cat(many(char(0xe9), 1001)...), chars, api.ErrLong)
	every := api.Node{Kind: api.NSet}
	for c := 1000; c < 55000; c += 2 {
		every.Ranges = append(every.Ranges, api.Range{Lo: c, Hi: c})
	}
	isNotPrinted(t, every, chars, api.ErrLong)
	every.Ranges = every.Ranges[:524] // two bytes each
	isPrinted(t, every, chars, "["+string(runes(every.Ranges))+"]")
}

func runes(l []api.Range) []rune {
	var text []rune
	for _, r := range l {
		text = append(text, rune(r.Lo))
	}
	return text
}

// TestPrintWrongAheadOfLong: P10.2, a tree that is not right is that first, however long its text.
func TestPrintWrongAheadOfLong(t *testing.T) {
	long := many(char('.'), 1500)
	isNotPrinted(t, cat(append(long, begin())...), neither, api.ErrTree)
	isNotPrinted(t, cat(append(long, back(1))...), neither, api.ErrBack)
	isNotPrinted(t, cat(many(char('.'), 2000)...), neither, api.ErrMany)
	isNotPrinted(t, cat(long...), neither, api.ErrLong)
}

// TestPrintKeepsWhatIsGiven: P3, Print and Draw write nothing into a tree, nor behind its lists; P4, and tell the same again.
func TestPrintKeepsWhatIsGiven(t *testing.T) {
	room := many(group(1, alt(cat(begin(), set('[', '^', 'a', 'c')), star(char('.')))), 4)
	room[1], room[2] = rep(back(1), 2, 3), end()
	n := cat(room[:3]...)
	kept, behind := written(n), written(room[3])
	first, _ := show.Print(n, neither)
	drawn, _ := show.Draw(n, neither)
	if !equal(n, kept) || !equal(room[3], behind) {
		t.Error("what was handed in changed")
	}
	for range 3 {
		isPrinted(t, n, neither, first)
		isDrawn(t, n, neither, drawn)
	}
	n.Kids[0].Kids[0].Kids[0].Kids[1].Ranges[0].Lo = 0
	if want := `\(^[[.[.]-[.^.]a-c]\|\.*\)\1\{2,3\}$`; first != want {
		t.Errorf("Print: %q, not %q", first, want)
	}
}
