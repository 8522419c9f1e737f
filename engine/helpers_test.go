package engine_test

import (
	"errors"
	"slices"
	"strconv"
	"testing"

	"dredge/api"
	"dredge/engine"
)

var (
	neither = api.Mode{}
	chars   = api.Mode{Chars: true}
	fold    = api.Mode{Fold: true}
	both    = api.Mode{Chars: true, Fold: true}
)

func modes() []api.Mode { return []api.Mode{neither, chars, fold, both} }

// plans is ways to look for parts in one mode, each of them another route, or another room. (Of a pattern with backreferences Lazy is none.)
func plans(mode api.Mode) []api.Plan {
	return []api.Plan{
		{Mode: mode, Room: 2},
		{Mode: mode, Room: 2, Route: api.Lazy},
		{Mode: mode, Room: 5, Route: api.Lazy, Plain: true},
		{Mode: mode, Room: api.MaxRoom, Route: api.Lazy},
		{Mode: mode, Room: 2, Route: api.Machine},
		{Mode: mode, Room: 2, Route: api.Machine, Plain: true},
	}
}

// asked is an engine, with what it is of: what it answers is held against the promises.
type asked struct {
	*engine.Engine
	t       *testing.T
	pattern string
	plan    api.Plan
}

func ask(t *testing.T, pattern string, plan api.Plan) asked {
	t.Helper()
	e, err := engine.Compile(pattern, plan)
	if e == nil || err != nil {
		t.Fatalf("Compile(%q, %v): %v", pattern, plan, err)
	}
	if e.Steps() != 0 {
		t.Fatalf("Compile(%q, %v): %d steps, and nothing was asked", pattern, plan, e.Steps())
	}
	return asked{e, t, pattern, plan}
}

// askAll is one by each plan that there is of a pattern.
func askAll(t *testing.T, pattern string, mode api.Mode) []asked {
	t.Helper()
	var l []asked
	for _, plan := range plans(mode) {
		if _, err := engine.Compile(pattern, plan); plan.Route == api.Lazy && errors.Is(err, api.ErrRoute) {
			continue
		}
		l = append(l, ask(t, pattern, plan))
	}
	return l
}

// find is Find, which must do no more steps than Bound tells.
func (a asked) find(line string, from int) (api.Span, bool, api.Errno) {
	a.t.Helper()
	steps := a.Steps()
	part, found, e := a.Find(line, from)
	if done := a.Steps() - steps; done < 0 || done > a.Bound(len(line)) {
		a.t.Fatalf("%q, %v: Find in %q from %d: %d steps, at most %d", a.pattern, a.plan, short(line), from, done, a.Bound(len(line)))
	}
	return part, found, e
}

// tells: Find tells this part.
func (a asked) tells(line string, from int, want api.Span) {
	a.t.Helper()
	if part, found, e := a.find(line, from); part != want || !found || e != api.OK {
		a.t.Fatalf("%q, %v: Find in %q from %d: %v, %v, %v, want %v", a.pattern, a.plan, short(line), from, part, found, e, want)
	}
}

// none: Find tells no part.
func (a asked) none(line string, from int) {
	a.t.Helper()
	if part, found, e := a.find(line, from); part != (api.Span{}) || found || e != api.OK {
		a.t.Fatalf("%q, %v: Find in %q from %d: %v, %v, %v, want none", a.pattern, a.plan, short(line), from, part, found, e)
	}
}

// refuses: Find tells an error, and does nothing.
func (a asked) refuses(line string, from int) {
	a.t.Helper()
	steps := a.Steps()
	if part, found, e := a.Find(line, from); part != (api.Span{}) || found || e != api.ErrArg || a.Steps() != steps {
		a.t.Fatalf("%q, %v: Find in %q from %d: %v, %v, %v and %d steps, want an error", a.pattern, a.plan, short(line), from, part, found, e, a.Steps()-steps)
	}
}

// goesOver: All tells these parts.
func (a asked) goesOver(line string, want []api.Span) {
	a.t.Helper()
	if l := slices.Collect(a.All(line)); !slices.Equal(l, want) {
		a.t.Fatalf("%q, %v: All in %q: %v, want %v", a.pattern, a.plan, short(line), l, want)
	}
}

// holds: Find and All in a line tell what chapter 00 says, from all numbers, and some that are none. What came up is counted.
func holds(l []asked, line string, told map[string]int) {
	n := l[0].Tree()
	r := readingOf(line, l[0].plan.Mode)
	all := r.all(n)
	for from := -1; from <= len(line)+1; from++ {
		part, is := api.Span{}, false
		if r.isPlace(from) {
			part, is = r.find(n, from)
		}
		for _, a := range l {
			a.t.Helper()
			switch {
			case !r.isPlace(from):
				a.refuses(line, from)
				told["refused"]++
			case is:
				a.tells(line, from, part)
				told["found"]++
			default:
				a.none(line, from)
				told["none"]++
			}
		}
	}
	for _, a := range l {
		a.goesOver(line, all)
		if len(all) > 1 {
			told["several"]++
		}
	}
}

// enough: each of some things came up so many times.
func enough(t *testing.T, told map[string]int, least int, things ...string) {
	t.Helper()
	for _, what := range things {
		if told[what] < least {
			t.Errorf("only %d times: %s", told[what], what)
		}
	}
}

// short is the beginning of a line.
func short(line string) string {
	if len(line) > 100 {
		return line[:100] + ".."
	}
	return line
}

// numbers gives numbers below a bound, always the same ones.
func numbers(seed uint32) func(int) int {
	return func(below int) int {
		seed = seed*1664525 + 1013904223
		return int(seed>>8) % below
	}
}

// maker makes patterns that are right.
type maker struct {
	next   func(int) int
	mode   api.Mode
	free   bool // no backreferences
	groups int
	closed []int
}

// letters is those of a mode's lines.
func letters(mode api.Mode) []string {
	switch mode {
	case chars:
		return []string{"a", "b", "é", "€", "\xc3", "\xa9"}
	case fold:
		return []string{"a", "A", "b", "-"}
	case both:
		return []string{"a", "A", "é", "\xa9"}
	}
	return []string{"a", "b", "\xe9"}
}

func pick(next func(int) int, l []string) string { return l[next(len(l))] }

// pattern is some branches, in which there may be groups so deep.
func (m *maker) pattern(deep int) string {
	s := m.branch(deep)
	for m.next(4) == 0 {
		s += `\|` + m.branch(deep)
	}
	return s
}

func (m *maker) branch(deep int) string {
	s := ""
	if m.next(12) == 0 {
		s = "^"
	}
	for range 1 + m.next(4) {
		s += m.thing(deep)
		if m.next(3) == 0 {
			s += pick(m.next, []string{`*`, `*`, `\+`, `\?`, `\{2\}`, `\{1,\}`, `\{0,2\}`, `\{2,3\}`, `\{0\}`, `\{1\}`, `**`})
		}
	}
	if m.next(12) == 0 {
		s += "$"
	}
	return s
}

func (m *maker) thing(deep int) string {
	switch k := m.next(10); {
	case k < 3 && deep > 0 && m.groups < 9:
		m.groups++
		number := m.groups
		s := `\(` + m.pattern(deep-1) + `\)`
		m.closed = append(m.closed, number)
		return s
	case k < 6 && len(m.closed) > 0 && !m.free:
		return `\` + strconv.Itoa(m.closed[m.next(len(m.closed))])
	case k == 6:
		return pick(m.next, []string{`.`, `[ab]`, `[^a]`, `[[:alpha:]]`, `[b-z]`})
	}
	if m.mode.Chars {
		return pick(m.next, []string{"a", "a", "b", "é"})
	}
	return pick(m.next, []string{"a", "a", "b"})
}

// madePattern is a pattern of a mode.
func madePattern(next func(int) int, mode api.Mode, free bool) string {
	m := &maker{next: next, mode: mode, free: free}
	return m.pattern(2)
}

// madeLine is a line of at most so many letters.
func madeLine(next func(int) int, mode api.Mode, most int) string {
	line := ""
	for range next(most + 1) {
		line += pick(next, letters(mode))
	}
	return line
}

// linesOf is all lines of at most so many of some letters.
func linesOf(letters []string, most int) []string {
	l := []string{""}
	last := l
	for range most {
		var longer []string
		for _, line := range last {
			for _, letter := range letters {
				longer = append(longer, line+letter)
			}
		}
		l, last = append(l, longer...), longer
	}
	return l
}
