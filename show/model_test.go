package show_test

import (
	"slices"
	"strconv"
	"strings"
	"testing"

	"dredge/api"
	shown "dredge/chars"
	"dredge/parse"
	"dredge/show"
	"dredge/tree"
)

// The model: a tree's text is a row of pieces, nodes and texts; the first node is replaced by what the chapter's table says of it, until texts alone are left.

// piece is a node, or a text (of the kind 0).
type piece struct {
	node api.Node
	text string
}

func word(s string) piece { return piece{text: s} }

// opened is what the chapter's table says of a node.
func opened(n api.Node, mode api.Mode) []piece {
	var l []piece
	for _, kid := range n.Kids {
		l = append(l, piece{node: kid})
	}
	switch n.Kind {
	case api.NSet:
		class, _ := show.Class(n.Ranges, mode)
		return []piece{word(class)}
	case api.NBegin:
		return []piece{word("^")}
	case api.NEnd:
		return []piece{word("$")}
	case api.NAlt:
		for i := len(l) - 1; i > 0; i-- {
			l = slices.Insert(l, i, word(`\|`))
		}
	case api.NGroup:
		return []piece{word(`\(`), l[0], word(`\)`)}
	case api.NBack:
		return []piece{word(`\`), word(string(rune('0' + n.N)))}
	case api.NRep:
		form := `\{m,n\}`
		switch {
		case n.Max == api.Infinite:
			form = []string{"*", `\+`, `\{m,\}`}[min(n.Min, 2)]
		case n.Min == n.Max:
			form = `\{m\}`
		case n.Max == 1:
			form = `\?`
		}
		form = strings.ReplaceAll(form, "m", strconv.Itoa(n.Min))
		return append(l, word(strings.ReplaceAll(form, "n", strconv.Itoa(n.Max))))
	}
	return l
}

func modelPrint(n api.Node, mode api.Mode) string {
	var text strings.Builder
	left := []piece{{node: n}} // the first one last
	for len(left) > 0 {
		first := left[len(left)-1]
		left = left[:len(left)-1]
		if first.node.Kind == 0 {
			text.WriteString(first.text)
			continue
		}
		l := opened(first.node, mode)
		slices.Reverse(l)
		left = append(left, l...)
	}
	return text.String()
}

// modelDraw is a line for each node, and the lines of its Kids two blanks further in.
func modelDraw(n api.Node, mode api.Mode) []string {
	words := []string{"", "empty", "set", "begin", "end", "cat", "alt", "group", "back", "rep"}
	line := []string{words[n.Kind]}
	switch n.Kind {
	case api.NSet:
		class, _ := show.Class(n.Ranges, mode)
		line = append(line, shown.Shown(class))
	case api.NGroup, api.NBack:
		line = append(line, strconv.Itoa(n.N))
	case api.NRep:
		line = append(line, strconv.Itoa(n.Min), strings.Replace(strconv.Itoa(n.Max), "-1", "-", 1))
	}
	lines := []string{strings.Join(line, " ")}
	for _, kid := range n.Kids {
		for _, l := range modelDraw(kid, mode) {
			lines = append(lines, "  "+l)
		}
	}
	return lines
}

// seenTexts is the tree of each text that was printed in a mode.
type seenTexts map[api.Mode]map[string]api.Node

func newSeen() seenTexts {
	s := seenTexts{}
	for _, mode := range modes() {
		s[mode] = map[string]api.Node{}
	}
	return s
}

// holds: P10.2, P10.3 and P10.4, of any tree: against the model, and there and back; how it is printed.
func (s seenTexts) holds(t *testing.T, n api.Node, mode api.Mode) api.Errno {
	t.Helper()
	if e := tree.Right(n, mode); e != api.OK {
		isNotPrinted(t, n, mode, e)
		isNotDrawn(t, n, mode, e)
		return e
	}
	isDrawn(t, n, mode, strings.Join(modelDraw(n, mode), "\n")+"\n")
	want := modelPrint(n, mode)
	if len(want) > 2000 {
		isNotPrinted(t, n, mode, api.ErrLong)
		return api.ErrLong
	}
	isPrinted(t, n, mode, want)
	again, err := parse.Parse(want, mode)
	if err != nil || !equal(again, n) {
		t.Errorf("Parse(%.200q, %v): %s, %v; not %s", want, mode, short(again), err, short(n))
	}
	if other, ok := s[mode][want]; ok && !tree.Same(other, n) {
		t.Errorf("two trees of %.200q, %v: %s and %s", want, mode, short(other), short(n))
	}
	s[mode][want] = written(n)
	return api.OK
}

// maker makes trees that are right.
type maker struct {
	next  func(int) int
	mode  api.Mode
	begun int   // groups
	ended []int // those that ended
}

func (m *maker) pattern(deep int) api.Node {
	if m.next(3) > 0 {
		return m.branch(deep)
	}
	n := alt()
	for range 2 + m.next(2) {
		n.Kids = append(n.Kids, m.branch(deep+1))
	}
	return n
}

func (m *maker) branch(deep int) api.Node {
	switch m.next(8) {
	case 0:
		return empty()
	case 1:
		return begin()
	case 2:
		return end()
	case 3, 4:
		return m.thing(deep)
	}
	n := cat()
	if m.next(3) == 0 {
		n.Kids = append(n.Kids, begin())
	}
	for range 2 + m.next(3) {
		n.Kids = append(n.Kids, m.thing(deep+1))
	}
	if m.next(3) == 0 {
		n.Kids = append(n.Kids, end())
	}
	return n
}

func (m *maker) thing(deep int) api.Node {
	kind := m.next(8)
	switch {
	case kind < 2 && deep < 12 && m.begun < 30:
		m.begun++
		number := m.begun
		n := group(number, m.pattern(deep+1))
		m.ended = append(m.ended, number)
		return n
	case kind < 4 && deep < 37:
		least := []int{0, 0, 1, 2, 255}[m.next(5)]
		most := []int{api.Infinite, least, min(255, least+1), 255}[m.next(4)]
		return rep(m.thing(deep+1), least, most)
	case kind == 4 && len(m.ended) > 0:
		if number := m.ended[m.next(len(m.ended))]; number <= 9 {
			return back(number)
		}
	}
	return api.Node{Kind: api.NSet, Ranges: someClass(m.next, m.mode)}
}

// spots is all nodes of a tree, to be written into.
func spots(n *api.Node) []*api.Node {
	l := []*api.Node{n}
	for i := range n.Kids {
		l = append(l, spots(&n.Kids[i])...)
	}
	return l
}

// spoil changes something about one node.
func spoil(n *api.Node, next func(int) int) {
	l := spots(n)
	at := l[next(len(l))]
	other := written(*l[next(len(l))])
	switch next(9) {
	case 0:
		at.Kind = next(12) - 1
	case 1:
		at.N += next(4) - 2
	case 2:
		at.Min += next(512) - 256
	case 3:
		at.Max += next(512) - 256
	case 4:
		at.Ranges = append(at.Ranges, api.Range{Lo: next(300), Hi: next(300)})
	case 5:
		at.Kids = append(at.Kids, other)
	case 6:
		at.Kids = at.Kids[:next(len(at.Kids)+1)]
	case 7:
		*at = other
	case 8:
		*at = rep(*at, 0, 1)
	}
}

// TestManyTrees: P10.2, P10.3 and P10.4, trees that are made right, and spoilt.
func TestManyTrees(t *testing.T) {
	next := numbers(21)
	texts := newSeen()
	told := map[api.Errno]int{}
	for i := range 8000 {
		m := &maker{next: next, mode: modes()[i%4]}
		n := m.pattern(1)
		if e := texts.holds(t, n, m.mode); e != api.OK && e != api.ErrLong {
			t.Fatalf("the maker's tree %s: %v", short(n), e)
		}
		spoil(&n, next)
		told[texts.holds(t, n, m.mode)]++
	}
	for _, e := range []api.Errno{api.OK, api.ErrTree, api.ErrBack} {
		if told[e] < 20 {
			t.Errorf("only %d trees are %v", told[e], e)
		}
	}
}

// TestManyLongTrees: P10.2, texts about the limit, whatever stands last in them.
func TestManyLongTrees(t *testing.T) {
	next := numbers(5)
	texts := newSeen()
	told := map[api.Errno]int{}
	for i := range 400 {
		m := &maker{next: next, mode: modes()[i%4]}
		n := cat(m.thing(2), m.thing(2))
		left := 2000 - len(modelPrint(n, m.mode)) + next(3) - 1
		if left < 0 {
			continue
		}
		n.Kids = slices.Insert(n.Kids, next(2), filled(left)...)
		told[texts.holds(t, n, m.mode)]++
	}
	if told[api.OK] < 50 || told[api.ErrLong] < 50 {
		t.Errorf("printed %d, too long %d", told[api.OK], told[api.ErrLong])
	}
}

// shapes is all rows of trees that have so many nodes in all, each node without a kind.
func shapes(nodes int) [][]api.Node {
	if nodes == 0 {
		return [][]api.Node{nil}
	}
	var l [][]api.Node
	for first := 1; first <= nodes; first++ {
		for _, kids := range shapes(first - 1) {
			for _, rest := range shapes(nodes - first) {
				l = append(l, append([]api.Node{{Kids: kids}}, rest...))
			}
		}
	}
	return l
}

// laid is a shape with the labels that were chosen, in the tree's order.
func laid(shape api.Node, labels []api.Node, choice []int, at *int) api.Node {
	n := labels[choice[*at]]
	*at++
	for _, k := range shape.Kids {
		n.Kids = append(n.Kids, laid(k, labels, choice, at))
	}
	return n
}

// labelled goes over all trees of a shape, each node one of the labels.
func labelled(shape api.Node, nodes int, labels []api.Node, look func(api.Node)) {
	choice := make([]int, nodes)
	for {
		at := 0
		look(laid(shape, labels, choice, &at))
		i := 0
		for i < nodes && choice[i] == len(labels)-1 {
			choice[i] = 0
			i++
		}
		if i == nodes {
			return
		}
		choice[i]++
	}
}

// TestAllSmallTrees: P10.2, P10.3 and P10.4, all trees of few nodes.
func TestAllSmallTrees(t *testing.T) {
	few := []api.Node{char('*'), begin(), cat(), alt(), {Kind: api.NGroup, N: 1}, back(1), {Kind: api.NRep, Max: api.Infinite}}
	more := append(slices.Clone(few), end(), empty(), char('^'), set('-', '-', '[', '['), api.Node{Kind: api.NGroup, N: 2}, api.Node{Kind: api.NRep, Min: 1, Max: 2})
	texts := newSeen()
	right := 0
	for nodes := 1; nodes <= 5; nodes++ {
		labels := more
		if nodes == 5 {
			labels = few
		}
		for _, shape := range shapes(nodes) {
			if len(shape) > 1 {
				continue
			}
			labelled(shape[0], nodes, labels, func(n api.Node) {
				if texts.holds(t, n, neither) == api.OK {
					right++
				}
			})
		}
	}
	if right < 500 {
		t.Errorf("only %d trees are right", right)
	}
}

// TestTextsThereAndBack: P10.4, Print of what Parse tells, parsed and printed again, is the same.
func TestTextsThereAndBack(t *testing.T) {
	next := numbers(9)
	texts := newSeen()
	parts := []string{`\(`, `\(`, `\)`, `\)`, `\|`, `\1`, `\2`, "*", `\+`, `\?`, "^", "$", `\{1,2\}`, `\{007\}`, `\{0,\}`, "[a-]", "[]^-]", "[^[:alpha:]]", "[[.-.]-0]", `\.`, `\/`, `\]`, ".", "-", "]", "{", "é", "\n", "a", "Z", "\x00"}
	printed := 0
	for range 60000 {
		s := ""
		for range next(9) {
			s += parts[next(len(parts))]
		}
		mode := modes()[next(4)]
		n, err := parse.Parse(s, mode)
		if err != nil {
			continue
		}
		if e := texts.holds(t, n, mode); e != api.OK {
			t.Errorf("Print of Parse(%q, %v): %v", s, mode, e)
			continue
		}
		printed++
		first, _ := show.Print(n, mode)
		again, _ := parse.Parse(first, mode)
		isPrinted(t, again, mode, first)
	}
	if printed < 5000 {
		t.Errorf("only %d were patterns", printed)
	}
}
