package parse_test

import (
	"strconv"
	"strings"
	"testing"

	"dredge/api"
	"dredge/parse"
	"dredge/tree"
)

// printer writes right trees as patterns, as chapter 10 says.
type printer struct{ mode api.Mode }

func (p printer) character(c int) string {
	if p.mode.Chars {
		return string(rune(c))
	}
	return string([]byte{byte(c)})
}

// bound is an END of a class in brackets.
func (p printer) bound(c int) string {
	if strings.ContainsRune("][-^", rune(c)) {
		return "[." + p.character(c) + ".]"
	}
	return p.character(c)
}

func (p printer) ranges(l []api.Range) string {
	s := ""
	for _, r := range l {
		s += p.bound(r.Lo)
		if r.Hi > r.Lo {
			s += "-" + p.bound(r.Hi)
		}
	}
	return s
}

func (p printer) class(l []api.Range) string {
	all := set(0, 255)
	if p.mode.Chars {
		all = set(0, 55295, 57344, 1114111)
	}
	switch {
	case len(l) == 0:
		return "[^" + p.ranges(all.Ranges) + "]"
	case equal(api.Node{Kind: api.NSet, Ranges: l}, all):
		return "."
	case len(l) == 1 && l[0].Lo == l[0].Hi && strings.ContainsRune(`.[*^$\`, rune(l[0].Lo)):
		return `\` + p.character(l[0].Lo)
	case len(l) == 1 && l[0].Lo == l[0].Hi:
		return p.character(l[0].Lo)
	}
	return "[" + p.ranges(l) + "]"
}

func often(least, most int) string {
	switch {
	case least == 0 && most == api.Infinite:
		return "*"
	case least == 1 && most == api.Infinite:
		return `\+`
	case least == 0 && most == 1:
		return `\?`
	case least == most:
		return `\{` + strconv.Itoa(least) + `\}`
	case most == api.Infinite:
		return `\{` + strconv.Itoa(least) + `,\}`
	}
	return `\{` + strconv.Itoa(least) + "," + strconv.Itoa(most) + `\}`
}

func (p printer) text(n api.Node) string {
	var kids []string
	for _, k := range n.Kids {
		kids = append(kids, p.text(k))
	}
	switch n.Kind {
	case api.NSet:
		return p.class(n.Ranges)
	case api.NBegin:
		return "^"
	case api.NEnd:
		return "$"
	case api.NCat:
		return strings.Join(kids, "")
	case api.NAlt:
		return strings.Join(kids, `\|`)
	case api.NGroup:
		return `\(` + kids[0] + `\)`
	case api.NBack:
		return `\` + strconv.Itoa(n.N)
	case api.NRep:
		return kids[0] + often(n.Min, n.Max)
	}
	return ""
}

// maker makes trees that are right.
type maker struct {
	next  func(int) int
	mode  api.Mode
	begun int   // groups
	ended []int // those that ended
}

func (m *maker) pattern(deep int) api.Node {
	if m.next(3) > 0 {
		return m.branch(deep)
	}
	n := alt()
	for range 2 + m.next(2) {
		n.Kids = append(n.Kids, m.branch(deep+1))
	}
	return n
}

func (m *maker) branch(deep int) api.Node {
	switch m.next(8) {
	case 0:
		return empty()
	case 1:
		return begin()
	case 2:
		return end()
	case 3, 4:
		return m.thing(deep)
	}
	n := cat()
	if m.next(3) == 0 {
		n.Kids = append(n.Kids, begin())
	}
	for range 2 + m.next(3) {
		n.Kids = append(n.Kids, m.thing(deep+1))
	}
	if m.next(3) == 0 {
		n.Kids = append(n.Kids, end())
	}
	return n
}

func (m *maker) thing(deep int) api.Node {
	kind := m.next(8)
	switch {
	case kind < 2 && deep < 12 && m.begun < 30:
		m.begun++
		number := m.begun
		n := group(number, m.pattern(deep+1))
		m.ended = append(m.ended, number)
		return n
	case kind < 4 && deep < 37:
		least := []int{0, 0, 1, 2, 255}[m.next(5)]
		most := []int{api.Infinite, least, min(255, least+1), 255}[m.next(4)]
		return rep(m.thing(deep+1), least, most)
	case kind == 4 && len(m.ended) > 0:
		if number := m.ended[m.next(len(m.ended))]; number <= 9 {
			return back(number)
		}
	}
	return m.set()
}

// set is a character, a range or more of them; with Fold both cases of each letter.
func (m *maker) set() api.Node {
	top := 255
	if m.mode.Chars {
		top = 1114111
	}
	special := `.[*^$\/]-()|{}+?,1a:=`
	c := int(special[m.next(len(special))])
	if m.next(3) == 0 {
		c = m.next(256)
	}
	l := []api.Node{set(), set(0, top), set(128, 255), set(top, top), set(0, 64, 91, 96, 123, top), set('-', '-', '[', '^'), set('[', '[', ']', '^')}
	if m.mode.Chars {
		l[1] = set(0, 55295, 57344, 1114111)
		l[4] = set(0, 64, 91, 96, 123, 4000)
	}
	if k := m.next(3 * len(l)); k < len(l) {
		return l[k]
	}
	n := char(c)
	if !m.mode.Fold && c >= 2 && m.next(2) == 0 {
		n = set(m.next(c-1), c-2, c, c+m.next(256-c))
	}
	if m.mode.Fold && c < 128 && 'a' <= c|32 && c|32 <= 'z' {
		n = set(c&^32, c&^32, c|32, c|32)
	}
	return n
}

// comesBack: T6 (P9.2), Parse of a right tree's text is the tree.
func comesBack(t *testing.T, n api.Node, mode api.Mode) {
	t.Helper()
	if e := tree.Right(n, mode); e != api.OK {
		t.Fatalf("the test's tree %v: %v", short(n), e)
	}
	text := printer{mode}.text(n)
	if len(text) > 2000 {
		isWrong(t, text, mode, api.ErrLong, 0)
		return
	}
	isTree(t, text, mode, n)
}

// TestThereAndBack: P9.2, trees of all kinds, in all modes.
func TestThereAndBack(t *testing.T) {
	next := numbers(3)
	for range 5000 {
		for _, mode := range modes() {
			m := &maker{next: next, mode: mode}
			comesBack(t, m.pattern(1), mode)
		}
	}
}

// TestSetsThereAndBack: P9.2, each character alone, and each range of few.
func TestSetsThereAndBack(t *testing.T) {
	for c := range 256 {
		for _, mode := range []api.Mode{neither, chars} {
			comesBack(t, char(c), mode)
			comesBack(t, cat(char(c), char(c)), mode)
			comesBack(t, cat(begin(), star(char(c)), char(c), end()), mode)
			for d := c; d < 256; d++ {
				comesBack(t, set(c, d), mode)
				if d < 254 {
					comesBack(t, set(c, d, d+2, 255), mode)
				}
			}
		}
	}
}

// TestThereAndBackAtTheLimits: P9.2, trees of 2000 nodes, of 40 deep, of 30 groups.
func TestThereAndBackAtTheLimits(t *testing.T) {
	many, pairs := cat(), cat()
	for i := range 1999 {
		many.Kids = append(many.Kids, char('0'+i%10))
	}
	deep, groups := char('-'), empty()
	for i := range 39 {
		deep = rep(deep, i, 255)
	}
	for i := range 30 {
		groups = group(30-i, groups)
		pairs.Kids = append(pairs.Kids, group(i+1, alt(empty(), empty())))
	}
	for _, mode := range modes() {
		comesBack(t, many, mode)
		comesBack(t, deep, mode)
		comesBack(t, groups, mode)
		comesBack(t, pairs, mode)
	}
}

// TestTextsThereAndBack: P9.2 and T6, what Parse tells, written again, is parsed as the same tree.
func TestTextsThereAndBack(t *testing.T) {
	rows([]string{`\(`, `\)`, `\|`, `\1`, "*", "^", "$", `\{1,2\}`, "[a-]", `\.`, "é"}, 4, func(s string) {
		for _, mode := range modes() {
			if n, err := parse.Parse(s, mode); err == nil {
				comesBack(t, n, mode)
			}
		}
	})
}
