package show_test

import (
	"fmt"
	"strings"
	"testing"

	"dredge/api"
	"dredge/show"
)

// isDrawn: Draw tells this text.
func isDrawn(t *testing.T, n api.Node, mode api.Mode, want string) {
	t.Helper()
	if s, e := show.Draw(n, mode); s != want || e != api.OK {
		t.Errorf("Draw(%s, %v): %.200q, %v; not %.200q", short(n), mode, s, e, want)
	}
}

// isDrawnInAll: in all modes.
func isDrawnInAll(t *testing.T, n api.Node, lines ...string) {
	t.Helper()
	for _, mode := range modes() {
		isDrawn(t, n, mode, strings.Join(lines, "\n")+"\n")
	}
}

// isNotDrawn: Draw tells this error, and nothing beside it.
func isNotDrawn(t *testing.T, n api.Node, mode api.Mode, want api.Errno) {
	t.Helper()
	if s, e := show.Draw(n, mode); s != "" || e != want {
		t.Errorf("Draw(%s, %v): %.200q, %v; not %v", short(n), mode, s, e, want)
	}
}

// TestDrawExamples: the chapter's.
func TestDrawExamples(t *testing.T) {
	isDrawnInAll(t, cat(group(1, empty()), star(back(1))), "cat", "  group 1", "    empty", "  rep 0 -", "    back 1")
}

// TestDrawKinds: P10.3, each kind's word and what stands behind it.
func TestDrawKinds(t *testing.T) {
	isDrawnInAll(t, empty(), "empty")
	isDrawnInAll(t, begin(), "begin")
	isDrawnInAll(t, end(), "end")
	isDrawnInAll(t, char('0'), "set 0")
	isDrawnInAll(t, set('0', '9'), "set [0-9]")
	isDrawnInAll(t, cat(begin(), end()), "cat", "  begin", "  end")
	isDrawnInAll(t, alt(empty(), char('1'), empty()), "alt", "  empty", "  set 1", "  empty")
	isDrawnInAll(t, group(1, end()), "group 1", "  end")
	isDrawnInAll(t, rep(char('0'), 2, 5), "rep 2 5", "  set 0")
	isDrawnInAll(t, rep(char('0'), 3, 3), "rep 3 3", "  set 0")
	isDrawnInAll(t, rep(char('0'), 0, 0), "rep 0 0", "  set 0")
	isDrawnInAll(t, rep(char('0'), 0, 1), "rep 0 1", "  set 0")
	isDrawnInAll(t, rep(char('0'), 1, api.Infinite), "rep 1 -", "  set 0")
	isDrawnInAll(t, rep(char('0'), 255, 255), "rep 255 255", "  set 0")
	isDrawnInAll(t, rep(char('0'), 255, api.Infinite), "rep 255 -", "  set 0")
}

// TestDrawSets: P10.3, a class is told by its pattern, which is shown.
func TestDrawSets(t *testing.T) {
	isDrawnInAll(t, char('.'), `set \\.`)
	isDrawnInAll(t, char('\\'), `set \\\\`)
	isDrawnInAll(t, char(' '), "set  ")
	isDrawnInAll(t, char('\n'), `set \n`)
	isDrawnInAll(t, char(0), `set \x00`)
	isDrawnInAll(t, char(127), `set \x7f`)
	isDrawnInAll(t, set('[', '^'), "set [[.[.]-[.^.]]")
	isDrawn(t, set(), neither, "set [^\\x00-\\xff]\n")
	isDrawn(t, set(), chars, "set [^\\x00-\xed\x9f\xbf\xee\x80\x80-\xf4\x8f\xbf\xbf]\n")
	isDrawn(t, set(0, 255), fold, "set .\n")
	isDrawn(t, char(0xe9), neither, "set \\xe9\n")
	isDrawn(t, char(0xe9), chars, "set é\n")
	isDrawn(t, char(0x85), chars, "set \\xc2\\x85\n")
	isDrawn(t, set('A', 'A', 'a', 'a'), both, "set [Aa]\n")
	// Bytes that are a character together are shown as one.
	isDrawn(t, set(0xa0, 0xa0, 0xc3, 0xc3), neither, "set [\\xa0\\xc3]\n")
	isDrawn(t, set(0xc2, 0xc2, 0xff, 0xff), neither, "set [\\xc2\\xff]\n")
}

// TestDrawDeep: P10.3, 40 nodes within one another, 30 groups, and in the tree's order what stands behind them.
func TestDrawDeep(t *testing.T) {
	deep := char('0')
	var want []string
	for i := 39; i >= 1; i-- {
		deep = rep(deep, i, 255)
	}
	for i := 1; i <= 39; i++ {
		want = append(want, strings.Repeat("  ", i-1)+fmt.Sprintf("rep %d 255", i))
	}
	isDrawnInAll(t, deep, append(want, strings.Repeat("  ", 39)+"set 0")...)

	want = []string{"cat"}
	groups := empty()
	for i := 30; i >= 1; i-- {
		groups = group(i, groups)
	}
	for i := 1; i <= 30; i++ {
		want = append(want, strings.Repeat("  ", i)+fmt.Sprintf("group %d", i))
	}
	isDrawnInAll(t, cat(groups, back(9), end()), append(want, strings.Repeat("  ", 31)+"empty", "  back 9", "  end")...)
}

// TestDrawGreat: P10.3, a text of any length may be drawn, of a tree with 2000 nodes and of one with great classes.
func TestDrawGreat(t *testing.T) {
	for _, mode := range modes() {
		isDrawn(t, cat(many(char('.'), 1999)...), mode, "cat\n"+strings.Repeat("  set \\\\.\n", 1999))
		isNotPrinted(t, cat(many(char('.'), 1999)...), mode, api.ErrLong)
		isNotDrawn(t, cat(many(char('.'), 2000)...), mode, api.ErrMany)
	}
	every := api.Node{Kind: api.NSet}
	for c := 1000; c < 55000; c += 2 {
		every.Ranges = append(every.Ranges, api.Range{Lo: c, Hi: c})
	}
	line := "  set [" + string(runes(every.Ranges)) + "]\n"
	isDrawn(t, alt(every, every), chars, "alt\n"+line+line)
}
