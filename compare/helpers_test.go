package compare_test

import (
	"fmt"
	"slices"
	"testing"

	"dredge/api"
	"dredge/compare"
	"dredge/parse"
	"dredge/tree"
)

var (
	neither = api.Mode{}
	chars   = api.Mode{Chars: true}
	fold    = api.Mode{Fold: true}
	both    = api.Mode{Chars: true, Fold: true}
)

func modes() []api.Mode {
	return []api.Mode{neither, chars, fold, both}
}

func empty() api.Node { return api.Node{Kind: api.NEmpty} }
func begin() api.Node { return api.Node{Kind: api.NBegin} }
func end() api.Node   { return api.Node{Kind: api.NEnd} }

// set is the node of ranges, each by its two bounds.
func set(bounds ...int) api.Node {
	n := api.Node{Kind: api.NSet}
	for i := 0; i < len(bounds); i += 2 {
		n.Ranges = append(n.Ranges, api.Range{Lo: bounds[i], Hi: bounds[i+1]})
	}
	return n
}

func char(c int) api.Node { return set(c, c) }

func cat(kids ...api.Node) api.Node { return api.Node{Kind: api.NCat, Kids: kids} }
func alt(kids ...api.Node) api.Node { return api.Node{Kind: api.NAlt, Kids: kids} }

func group(number int, kid api.Node) api.Node {
	return api.Node{Kind: api.NGroup, N: number, Kids: []api.Node{kid}}
}

func back(number int) api.Node { return api.Node{Kind: api.NBack, N: number} }

func rep(kid api.Node, least, most int) api.Node {
	return api.Node{Kind: api.NRep, Min: least, Max: most, Kids: []api.Node{kid}}
}

func star(kid api.Node) api.Node { return rep(kid, 0, api.Infinite) }

// all is the node of all characters.
func all(mode api.Mode) api.Node {
	if mode.Chars {
		return set(0, 0xd7ff, 0xe000, api.MaxRune)
	}
	return set(0, 255)
}

// of is a pattern's tree.
func of(t *testing.T, pattern string, mode api.Mode) api.Node {
	t.Helper()
	n, err := parse.Parse(pattern, mode)
	if err != nil {
		t.Fatalf("Parse(%q, %v): %v", pattern, mode, err)
	}
	return n
}

// brief is the beginning of a tree, which may have no end: its nodes, each with how deep it is.
func brief(n api.Node) string {
	s := ""
	for deep, node := range tree.All(n) {
		if len(s) > 300 {
			return s + ".."
		}
		node.Kids = nil
		s += fmt.Sprint(deep, node, " ")
	}
	return s
}

// short is the beginning of a line.
func short(line string) string {
	if len(line) > 100 {
		return line[:100] + ".."
	}
	return line
}

// least: Least tells this line, or that there is none, and Empty tells the same.
func least(t *testing.T, n api.Node, mode api.Mode, line string, is bool) {
	t.Helper()
	if got, found, e := compare.Least(n, mode); got != line || found != is || e != api.OK {
		t.Fatalf("Least of %s, %v: %q, %v, %v, want %q, %v", brief(n), mode, short(got), found, e, short(line), is)
	}
	if none, e := compare.Empty(n, mode); none == is || e != api.OK {
		t.Fatalf("Empty of %s, %v: %v, %v, want %v", brief(n), mode, none, e, !is)
	}
}

// within: Within tells that all lines of a are in b.
func within(t *testing.T, a, b api.Node, mode api.Mode) {
	t.Helper()
	if in, line, e := compare.Within(a, b, mode); !in || line != "" || e != api.OK {
		t.Fatalf("Within of %s and %s, %v: %v, %q, %v, want that it is so", brief(a), brief(b), mode, in, short(line), e)
	}
}

// notWithin: Within tells this line.
func notWithin(t *testing.T, a, b api.Node, mode api.Mode, want string) {
	t.Helper()
	if in, line, e := compare.Within(a, b, mode); in || line != want || e != api.OK {
		t.Fatalf("Within of %s and %s, %v: %v, %q, %v, want %q", brief(a), brief(b), mode, in, short(line), e, short(want))
	}
}

// same: Same tells, of both orders, that two trees are the same.
func same(t *testing.T, a, b api.Node, mode api.Mode) {
	t.Helper()
	for range 2 {
		if is, line, e := compare.Same(a, b, mode); !is || line != "" || e != api.OK {
			t.Fatalf("Same of %s and %s, %v: %v, %q, %v, want that it is so", brief(a), brief(b), mode, is, short(line), e)
		}
		a, b = b, a
	}
}

// notSame: Same tells, of both orders, this line.
func notSame(t *testing.T, a, b api.Node, mode api.Mode, want string) {
	t.Helper()
	for range 2 {
		if is, line, e := compare.Same(a, b, mode); is || line != want || e != api.OK {
			t.Fatalf("Same of %s and %s, %v: %v, %q, %v, want %q", brief(a), brief(b), mode, is, short(line), e, short(want))
		}
		a, b = b, a
	}
}

// states: States tells this number.
func states(t *testing.T, n api.Node, mode api.Mode, want int) {
	t.Helper()
	if got, e := compare.States(n, mode); got != want || e != api.OK {
		t.Fatalf("States of %s, %v: %d, %v, want %d", brief(n), mode, got, e, want)
	}
}

// refused: all calls tell this error, and nothing beside it; of a tree alone, and of two.
func refused(t *testing.T, a, b api.Node, mode api.Mode, want api.Errno) {
	t.Helper()
	if in, line, e := compare.Within(a, b, mode); in || line != "" || e != want {
		t.Errorf("Within of %s and %s, %v: %v, %q, %v, want the error %d", brief(a), brief(b), mode, in, short(line), e, want)
	}
	if is, line, e := compare.Same(a, b, mode); is || line != "" || e != want {
		t.Errorf("Same of %s and %s, %v: %v, %q, %v, want the error %d", brief(a), brief(b), mode, is, short(line), e, want)
	}
}

func refusedAlone(t *testing.T, n api.Node, mode api.Mode, want api.Errno) {
	t.Helper()
	if none, e := compare.Empty(n, mode); none || e != want {
		t.Errorf("Empty of %s, %v: %v, %v, want the error %d", brief(n), mode, none, e, want)
	}
	if line, found, e := compare.Least(n, mode); line != "" || found || e != want {
		t.Errorf("Least of %s, %v: %q, %v, %v, want the error %d", brief(n), mode, short(line), found, e, want)
	}
	if number, e := compare.States(n, mode); number != 0 || e != want {
		t.Errorf("States of %s, %v: %d, %v, want the error %d", brief(n), mode, number, e, want)
	}
}

// taken: no call refuses a tree.
func taken(t *testing.T, n api.Node, mode api.Mode) {
	t.Helper()
	if _, e := compare.Empty(n, mode); e != api.OK {
		t.Errorf("Empty of %s, %v: %v", brief(n), mode, e)
	}
	if _, _, e := compare.Least(n, mode); e != api.OK {
		t.Errorf("Least of %s, %v: %v", brief(n), mode, e)
	}
	if number, e := compare.States(n, mode); number < 1 || e != api.OK {
		t.Errorf("States of %s, %v: %d, %v", brief(n), mode, number, e)
	}
	if in, _, e := compare.Within(n, n, mode); !in || e != api.OK {
		t.Errorf("Within of %s and itself, %v: %v, %v", brief(n), mode, in, e)
	}
	if is, _, e := compare.Same(n, n, mode); !is || e != api.OK {
		t.Errorf("Same of %s and itself, %v: %v, %v", brief(n), mode, is, e)
	}
}

// enough: each of some things came up so many times.
func enough(t *testing.T, told map[string]int, least int, things ...string) {
	t.Helper()
	for _, what := range things {
		if told[what] < least {
			t.Errorf("only %d times: %s", told[what], what)
		}
	}
}

// spots is all nodes of a tree, to be written into.
func spots(n *api.Node) []*api.Node {
	l := []*api.Node{n}
	for i := range n.Kids {
		l = append(l, spots(&n.Kids[i])...)
	}
	return l
}

// copied is a tree in memory of its own.
func copied(n api.Node) api.Node {
	n.Ranges, n.Kids = slices.Clone(n.Ranges), slices.Clone(n.Kids)
	for i := range n.Kids {
		n.Kids[i] = copied(n.Kids[i])
	}
	return n
}

// numbers gives numbers below a bound, always the same ones.
func numbers(seed uint32) func(int) int {
	return func(below int) int {
		seed = seed*1664525 + 1013904223
		return int(seed>>8) % below
	}
}
