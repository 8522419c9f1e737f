package scan_test

import (
	"fmt"
	"slices"
	"testing"

	"dredge/api"
	"dredge/measure"
	"dredge/parse"
	"dredge/scan"
	"dredge/tree"
)

var (
	neither = api.Mode{}
	chars   = api.Mode{Chars: true}
	fold    = api.Mode{Fold: true}
	both    = api.Mode{Chars: true, Fold: true}
)

func modes() []api.Mode {
	return []api.Mode{neither, chars, fold, both}
}

// rooms is how many states may be kept: as few as there may be, some, all.
func rooms() []int {
	return []int{2, 3, 4, 7, 20, api.MaxRoom}
}

func empty() api.Node { return api.Node{Kind: api.NEmpty} }
func begin() api.Node { return api.Node{Kind: api.NBegin} }
func end() api.Node   { return api.Node{Kind: api.NEnd} }

// set is the node of ranges, each by its two bounds.
func set(bounds ...int) api.Node {
	n := api.Node{Kind: api.NSet}
	for i := 0; i < len(bounds); i += 2 {
		n.Ranges = append(n.Ranges, api.Range{Lo: bounds[i], Hi: bounds[i+1]})
	}
	return n
}

func char(c int) api.Node { return set(c, c) }

func cat(kids ...api.Node) api.Node { return api.Node{Kind: api.NCat, Kids: kids} }
func alt(kids ...api.Node) api.Node { return api.Node{Kind: api.NAlt, Kids: kids} }

func group(number int, kid api.Node) api.Node {
	return api.Node{Kind: api.NGroup, N: number, Kids: []api.Node{kid}}
}

func back(number int) api.Node { return api.Node{Kind: api.NBack, N: number} }

func rep(kid api.Node, least, most int) api.Node {
	return api.Node{Kind: api.NRep, Min: least, Max: most, Kids: []api.Node{kid}}
}

func star(kid api.Node) api.Node { return rep(kid, 0, api.Infinite) }

// of is a pattern's tree.
func of(t *testing.T, pattern string, mode api.Mode) api.Node {
	t.Helper()
	n, err := parse.Parse(pattern, mode)
	if err != nil {
		t.Fatalf("Parse(%q, %v): %v", pattern, mode, err)
	}
	return n
}

// brief is the beginning of a tree, which may have no end: its nodes, each with how deep it is.
func brief(n api.Node) string {
	s := ""
	for deep, node := range tree.All(n) {
		if len(s) > 300 {
			return s + ".."
		}
		s += fmt.Sprint(deep, node, " ")
	}
	return s
}

// short is the beginning of a line.
func short(line string) string {
	if len(line) > 100 {
		return line[:100] + ".."
	}
	return line
}

// asked is a scan, with what it is of: what it answers is held against the promises.
type asked struct {
	*scan.Scan
	t    *testing.T
	n    api.Node
	mode api.Mode
	room int
	size int
}

func ask(t *testing.T, n api.Node, mode api.Mode, room int) asked {
	t.Helper()
	s, e := scan.New(n, mode, room)
	if s == nil || e != api.OK {
		t.Fatalf("New of %s, %v, room %d: %v", brief(n), mode, room, e)
	}
	if s.Steps() != 0 {
		t.Fatalf("New of %s, %v, room %d: %d steps, and nothing was asked", brief(n), mode, room, s.Steps())
	}
	return asked{s, t, n, mode, room, measure.Size(n, mode)}
}

// find is Find, which must do no more steps than it may.
func (a asked) find(line string, from int) (api.Span, bool, api.Errno) {
	a.t.Helper()
	steps := a.Steps()
	part, found, e := a.Find(line, from)
	done := a.Steps() - steps
	if most := 64 * (a.size + 8) * (len(line) + 1); done < 0 || done > most {
		a.t.Fatalf("%s, %v, room %d: Find in %q from %d: %d steps, at most %d", brief(a.n), a.mode, a.room, short(line), from, done, most)
	}
	return part, found, e
}

// tells: Find tells this part.
func (a asked) tells(line string, from, begin, end int) {
	a.t.Helper()
	if part, found, e := a.find(line, from); part != (api.Span{From: begin, To: end}) || !found || e != api.OK {
		a.t.Fatalf("%s, %v, room %d: Find in %q from %d: %v, %v, %v, want (%d, %d)", brief(a.n), a.mode, a.room, short(line), from, part, found, e, begin, end)
	}
}

// none: Find tells no part.
func (a asked) none(line string, from int) {
	a.t.Helper()
	if part, found, e := a.find(line, from); part != (api.Span{}) || found || e != api.OK {
		a.t.Fatalf("%s, %v, room %d: Find in %q from %d: %v, %v, %v, want none", brief(a.n), a.mode, a.room, short(line), from, part, found, e)
	}
}

// refuses: Find tells an error, and does nothing.
func (a asked) refuses(line string, from int) {
	a.t.Helper()
	steps := a.Steps()
	if part, found, e := a.Find(line, from); part != (api.Span{}) || found || e != api.ErrArg || a.Steps() != steps {
		a.t.Fatalf("%s, %v, room %d: Find in %q from %d: %v, %v, %v and %d steps, want an error", brief(a.n), a.mode, a.room, short(line), from, part, found, e, a.Steps()-steps)
	}
}

// holds: Find in a line tells from a number what the chapter says. It tells whether there is a part.
func (a asked) holds(r reading, from int) bool {
	a.t.Helper()
	if !r.isPlace(from) {
		a.refuses(r.line, from)
		return false
	}
	part, is := r.find(a.n, from)
	if is {
		a.tells(r.line, from, part.From, part.To)
	} else {
		a.none(r.line, from)
	}
	return is
}

// holdsAll: Find in some lines from all numbers, and some that are none; by each scan.
func holdsAll(automata []asked, lines []string, told map[string]int) {
	for _, line := range lines {
		r := readingOf(line, automata[0].mode)
		for from := -1; from <= len(line)+1; from++ {
			for _, a := range automata {
				a.t.Helper()
				switch {
				case a.holds(r, from):
					told["found"]++
				case r.isPlace(from):
					told["none"]++
				default:
					told["refused"]++
				}
			}
		}
	}
}

// enough: each of some things came up so many times.
func enough(t *testing.T, told map[string]int, least int, things ...string) {
	t.Helper()
	for _, what := range things {
		if told[what] < least {
			t.Errorf("only %d times: %s", told[what], what)
		}
	}
}

// note counts a tree by what is in it.
func note(told map[string]int, n api.Node) {
	names := map[int]string{api.NEmpty: "empty", api.NSet: "set", api.NBegin: "begin", api.NEnd: "end", api.NCat: "cat", api.NAlt: "alt", api.NGroup: "group", api.NRep: "rep"}
	for _, node := range tree.All(n) {
		told[names[node.Kind]]++
	}
}

// spots is all nodes of a tree, to be written into.
func spots(n *api.Node) []*api.Node {
	l := []*api.Node{n}
	for i := range n.Kids {
		l = append(l, spots(&n.Kids[i])...)
	}
	return l
}

// copied is a tree in memory of its own.
func copied(n api.Node) api.Node {
	n.Ranges, n.Kids = slices.Clone(n.Ranges), slices.Clone(n.Kids)
	for i := range n.Kids {
		n.Kids[i] = copied(n.Kids[i])
	}
	return n
}

// numbers gives numbers below a bound, always the same ones.
func numbers(seed uint32) func(int) int {
	return func(below int) int {
		seed = seed*1664525 + 1013904223
		return int(seed>>8) % below
	}
}

// alphabet is the letters of a mode's lines.
func alphabet(mode api.Mode) []string {
	switch mode {
	case chars:
		return []string{"a", "b", "é", "€", "\xc3", "\xa9"}
	case fold:
		return []string{"a", "A", "-"}
	case both:
		return []string{"a", "A", "é", "\xa9"}
	}
	return []string{"a", "b", "\xe9"}
}

// madeLine is a line of at most so many letters of an alphabet.
func madeLine(next func(int) int, alphabet []string, most int) string {
	line := ""
	for range next(most + 1) {
		line += alphabet[next(len(alphabet))]
	}
	return line
}

// linesOf is all lines of at most so many letters of an alphabet.
func linesOf(alphabet []string, most int) []string {
	l := []string{""}
	last := l
	for range most {
		var next []string
		for _, line := range last {
			for _, letter := range alphabet {
				next = append(next, line+letter)
			}
		}
		l, last = append(l, next...), next
	}
	return l
}
