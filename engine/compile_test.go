package engine_test

import (
	"errors"
	"math"
	"slices"
	"strings"
	"testing"

	"dredge/api"
	"dredge/engine"
	"dredge/parse"
	"dredge/tree"
)

// refuses: Compile tells this error, Must panics with it; nothing else.
func refuses(t *testing.T, pattern string, plan api.Plan, code api.Errno, at int) {
	t.Helper()
	e, err := engine.Compile(pattern, plan)
	bad, is := err.(*api.Bad)
	if e != nil || !is || *bad != (api.Bad{Code: code, At: at}) || !errors.Is(err, code) {
		t.Errorf("Compile(%q, %v): %v, %v, want %v at %d", short(pattern), plan, e, err, code, at)
		return
	}
	thrown, is := thrownOf(pattern, plan).(*api.Bad)
	if !is || *thrown != *bad {
		t.Errorf("Must(%q, %v): %v, want %v", short(pattern), plan, thrown, bad)
	}
	// Each time a new one.
	if thrown == bad {
		t.Errorf("%q, %v: one error for two calls", short(pattern), plan)
	}
	bad.Code, bad.At = -1, -1
	if _, err := engine.Compile(pattern, plan); err == nil || *err.(*api.Bad) != (api.Bad{Code: code, At: at}) {
		t.Errorf("Compile(%q, %v): once more: %v", short(pattern), plan, err)
	}
}

// thrownOf is what Must panics with; nil, if it does not.
func thrownOf(pattern string, plan api.Plan) (thrown any) {
	defer func() { thrown = recover() }()
	engine.Must(pattern, plan)
	return nil
}

// TestWrongPlans: P21.1, whatever the pattern is, and the other parts of the plan.
func TestWrongPlans(t *testing.T) {
	for _, pattern := range []string{`a*`, ``, `[a`, `\(a\)\1`, `\(a\{200\}\)\{200\}`, strings.Repeat("a", api.MaxPattern+1)} {
		for _, plan := range []api.Plan{
			{}, {Room: 1}, {Room: -1}, {Room: math.MinInt}, {Room: api.MaxRoom + 1}, {Room: math.MaxInt},
			{Room: 1, Route: api.Lazy}, {Room: 1, Route: api.Machine}, {Room: api.MaxRoom + 1, Route: api.Machine, Plain: true}, {Route: api.Machine},
			{Room: 2, Route: -1}, {Room: 2, Route: 3}, {Room: 2, Route: math.MinInt}, {Room: 2, Route: math.MaxInt}, {Room: api.MaxRoom, Route: 3, Mode: both, Plain: true},
		} {
			refuses(t, pattern, plan, api.ErrArg, 0)
		}
	}
}

// TestRightPlans: P21.1, the least room and the greatest one, each route, plain or not.
func TestRightPlans(t *testing.T) {
	for _, mode := range modes() {
		for _, route := range []int{api.Auto, api.Lazy, api.Machine} {
			for _, room := range []int{2, 3, api.MaxRoom} {
				for _, plain := range []bool{false, true} {
					a := ask(t, `a*`, api.Plan{Mode: mode, Route: route, Room: room, Plain: plain})
					if thrown := thrownOf(`a*`, a.plan); thrown != nil {
						t.Errorf("Must, %v: %v", a.plan, thrown)
					}
					must := engine.Must(`a*`, a.plan)
					if part, found, e := must.Find("baa", 1); part != (api.Span{From: 1, To: 3}) || !found || e != api.OK {
						t.Errorf("%v: %v, %v, %v", a.plan, part, found, e)
					}
				}
			}
		}
	}
}

// TestWrongPatterns: P21.1, chapter 9's errors, at their places, by the mode.
func TestWrongPatterns(t *testing.T) {
	patterns := []string{`\(a`, `a\{3,2\}`, `\1`, `[a`, `a\)`, `\(\(a\)`, `\(a\1\)`, `\2\(a\)`, `a\`, `ab\q`, `a\{2`, `\+`, `a[z-b]`, `[[:dig:]]`, "a\xff", "[\xff]", `a` + strings.Repeat(`*`, 40),
		strings.Repeat("a", api.MaxPattern+1), strings.Repeat(`\(\)`, 31), strings.Repeat(`\(\)`, 30), strings.Repeat(`a`, api.MaxPattern), strings.Repeat(`a`, api.MaxPattern-1), strings.Repeat(`\(`, 31)}
	refused := 0
	for _, pattern := range patterns {
		for _, plan := range slices.Concat(plans(neither), plans(chars), plans(fold), plans(both)) {
			_, err := parse.Parse(pattern, plan.Mode)
			if err == nil {
				ask(t, pattern, plan)
				continue
			}
			refused++
			var bad *api.Bad
			errors.As(err, &bad)
			refuses(t, pattern, plan, bad.Code, bad.At)
		}
	}
	if refused < 18*24 {
		t.Errorf("only %d were refused", refused)
	}
	for pattern, want := range map[string]api.Bad{`\(a`: {Code: api.ErrOpen}, `a\{3,2\}`: {Code: api.ErrBound, At: 1}, `\1`: {Code: api.ErrBack}, `[a`: {Code: api.ErrBracket}, `a\)`: {Code: api.ErrClose, At: 1}} {
		for _, plan := range plans(both) {
			refuses(t, pattern, plan, want.Code, want.At)
		}
	}
}

// TestAnyPattern: P21.1 and T7, any bytes: an engine, just if chapter 9 has a tree of them.
func TestAnyPattern(t *testing.T) {
	next := numbers(31)
	pieces := []string{"a", "b", "\\", "\\(", "\\)", "\\|", "*", "^", "$", "[", "]", "-", "\\{", "1", ",", "\\}", "\\1", "\\+", ".", "é", "\xff", "\n", "[:alpha:]"}
	right, wrong := 0, 0
	for i := range 20000 {
		pattern := ""
		for range next(8) {
			pattern += pick(next, pieces)
		}
		plan := plans(modes()[i%4])[i%5/4*4]
		n, err := parse.Parse(pattern, plan.Mode)
		if err != nil {
			wrong++
			var bad *api.Bad
			errors.As(err, &bad)
			refuses(t, pattern, plan, bad.Code, bad.At)
			continue
		}
		right++
		if e, err := engine.Compile(pattern, plan); err != nil || !tree.Same(e.Tree(), n) {
			t.Fatalf("Compile(%q, %v): %v", pattern, plan, err)
		}
	}
	if right < 3000 || wrong < 3000 {
		t.Errorf("%d right, %d wrong", right, wrong)
	}
}

// TestGreatTrees: P21.1, trees of the greatest size, and of one more: whatever the route, and ahead of what is wrong with that.
func TestGreatTrees(t *testing.T) {
	for _, plan := range append(plans(neither), plans(both)...) {
		a := ask(t, `\(a\{32\}\)\{100\}`, plan)
		if a.Size() != api.MaxSize {
			t.Errorf("size %d", a.Size())
		}
		refuses(t, `\(a\{23\}\)\{137\}`, plan, api.ErrSize, 0)
		refuses(t, `\(a\{200\}\)\{200\}`, plan, api.ErrSize, 0)
		refuses(t, `\(a\{200\}\)\{200\}\1`, plan, api.ErrSize, 0)
		refuses(t, `\(a\{255\}\)\{255,\}[`, plan, api.ErrBracket, 20)
	}
	// By the mode: a character's size is 16.
	ask(t, `[é]\{200\}`, api.Plan{Room: 2})
	ask(t, `\(.\{30\}\)\{10\}`, api.Plan{Room: 2, Mode: fold})
	refuses(t, `\(.\{60\}\)\{10\}`, api.Plan{Room: 2, Mode: chars}, api.ErrSize, 0)
}

// TestGreatTreesMatch: P21.3, of trees of the greatest size.
func TestGreatTreesMatch(t *testing.T) {
	line := strings.Repeat("a", 3300)
	for _, plan := range []api.Plan{{Room: 2}, {Room: api.MaxRoom}, {Room: 2, Route: api.Machine}, {Room: 2, Route: api.Machine, Plain: true}} {
		a := ask(t, `\(a\{32\}\)\{100\}`, plan)
		a.tells(line, 50, api.Span{From: 50, To: 3250})
		a.none(line[:3199], 3000)
	}
}

// TestWrongRoutes: P21.1, the automata and backreferences.
func TestWrongRoutes(t *testing.T) {
	for _, pattern := range []string{`\(a\)\1`, `\(a\)\(b\1*\)\{0\}`, `\(\)\|\1`, `\(\(a\)\2\)`} {
		for _, mode := range modes() {
			refuses(t, pattern, api.Plan{Mode: mode, Room: 2, Route: api.Lazy}, api.ErrRoute, 0)
			refuses(t, pattern, api.Plan{Mode: mode, Room: api.MaxRoom, Route: api.Lazy, Plain: true}, api.ErrRoute, 0)
			ask(t, pattern, api.Plan{Mode: mode, Room: 2, Route: api.Machine})
			ask(t, pattern, api.Plan{Mode: mode, Room: 2, Plain: true})
		}
	}
}
