package engine_test

import (
	"math"
	"math/big"
	"testing"

	"dredge/api"
	"dredge/engine"
	"dredge/measure"
	"dredge/parse"
	"dredge/tree"
)

// TestRoute: P21.2, the plan's, and of Auto by the tree; whatever else the plan says.
func TestRoute(t *testing.T) {
	for _, c := range []struct {
		pattern     string
		route, want int
	}{
		{`a*`, api.Auto, api.Lazy}, {`a*`, api.Lazy, api.Lazy}, {`a*`, api.Machine, api.Machine},
		{``, api.Auto, api.Lazy}, {`\(a\)`, api.Auto, api.Lazy}, {`\\1`, api.Auto, api.Lazy}, {`\(a\)[\1]`, api.Auto, api.Lazy},
		{`\(a\)\1`, api.Auto, api.Machine}, {`\(a\)\1`, api.Machine, api.Machine}, {`\(a\)\(b\1\)\{0\}`, api.Auto, api.Machine},
	} {
		for _, mode := range modes() {
			for _, plain := range []bool{false, true} {
				e := engine.Must(c.pattern, api.Plan{Mode: mode, Route: c.route, Room: 2, Plain: plain})
				if e.Route() != c.want {
					t.Errorf("%q, %d: the route %d, want %d", c.pattern, c.route, e.Route(), c.want)
				}
			}
		}
	}
}

// TestTree: P21.2, chapter 9's tree and its size, by the mode; new memory each time: who writes into it changes nothing.
func TestTree(t *testing.T) {
	for _, pattern := range []string{``, `a`, `ab*`, `[ace-g]\|é`, `\(a\(b*\)\)\{3\}`, `\(a*\)\1`, `^\([^a]\)\1$`, `a\{2,\}\?`} {
		for _, mode := range modes() {
			n, err := parse.Parse(pattern, mode)
			if err != nil {
				t.Fatal(err)
			}
			for _, a := range askAll(t, pattern, mode) {
				for range 3 {
					got := a.Tree()
					if !tree.Same(got, n) || a.Size() != measure.Size(n, mode) || a.Bound(5) != ask(t, pattern, a.plan).Bound(5) {
						t.Fatalf("%q, %v: the tree %v, the size %d, want %v", pattern, a.plan, got, a.Size(), n)
					}
					holds([]asked{a}, "abbaé", map[string]int{})
					spoil(&got)
				}
			}
		}
	}
}

// spoil writes into all of a tree, and into the spare room of its lists.
func spoil(n *api.Node) {
	for i := range n.Kids {
		spoil(&n.Kids[i])
	}
	kids, ranges := n.Kids[:cap(n.Kids)], n.Ranges[:cap(n.Ranges)]
	for i := range kids {
		kids[i] = api.Node{Kind: 99}
	}
	for i := range ranges {
		ranges[i] = api.Range{Lo: 9, Hi: 9}
	}
	n.Kind, n.N, n.Min, n.Max = 55, 55, 55, 55
}

// boundOf is P21.4's Bound, of a pattern and a plan.
func boundOf(t *testing.T, pattern string, plan api.Plan, n int) int {
	t.Helper()
	if n < 0 {
		return 0
	}
	root, err := parse.Parse(pattern, plan.Mode)
	if err != nil {
		t.Fatal(err)
	}
	all := big.NewInt(64)
	times := func(number, more int) {
		all.Mul(all, new(big.Int).Add(big.NewInt(int64(number)), big.NewInt(int64(more))))
	}
	times(measure.Size(root, plan.Mode), 8)
	refs, reps := map[int]int{}, []int{}
	for _, node := range tree.All(root) {
		if node.Kind == api.NBack {
			refs[node.N]++
		}
		if node.Kind == api.NRep && node.Max == api.Infinite {
			reps = append(reps, node.Min)
		} else if node.Kind == api.NRep {
			reps = append(reps, node.Max)
		}
	}
	switch {
	case plan.Route == api.Lazy || plan.Route == api.Auto && len(refs) == 0:
		times(n, 1)
	case plan.Plain:
		return 1 << 62
	case len(refs) == 0 && len(reps) == 0:
		times(n, 1)
		times(n, 1)
	default:
		for range 2 + 2*len(refs) {
			times(n, 2)
		}
		for _, b := range reps {
			times(2, 0)
			times(b, 2)
		}
	}
	if all.Cmp(big.NewInt(1<<62)) > 0 {
		return 1 << 62
	}
	return int(all.Int64())
}

// TestBoundExamples: P21.4, the chapter's, and some by hand.
func TestBoundExamples(t *testing.T) {
	for _, c := range []struct {
		pattern string
		plan    api.Plan
		n, want int
	}{
		{`a*`, api.Plan{}, 3, 64 * 11 * 4},
		{`a*`, api.Plan{}, -1, 0},
		{`a*`, api.Plan{Plain: true}, 3, 64 * 11 * 4},
		{`a*`, api.Plan{Route: api.Lazy, Plain: true}, 0, 64 * 11},
		{`\(a*\)\1`, api.Plan{}, 10, 64 * 16 * 12 * 12 * 12 * 12 * 4},
		{`\(a*\)\1`, api.Plan{}, 0, 64 * 16 * 2 * 2 * 2 * 2 * 4},
		{`\(a*\)\1`, api.Plan{}, -1, 0},
		{`\(a*\)\1`, api.Plan{Plain: true}, 10, 1 << 62},
		{`\(a*\)\1`, api.Plan{Plain: true}, -1, 0},
		{`a*`, api.Plan{Route: api.Machine}, 1, 64 * 11 * 3 * 3 * 4},
		{`a\{2,5\}`, api.Plan{Route: api.Machine}, 1, 64 * 23 * 3 * 3 * 2 * 7},
		{`a\{5,\}`, api.Plan{Route: api.Machine}, 1, 64 * 26 * 3 * 3 * 2 * 7},
		{`a\{0\}`, api.Plan{Route: api.Machine}, 1, 64 * 11 * 3 * 3 * 2 * 2},
		{`a*\{3\}`, api.Plan{Route: api.Machine}, 1, 64 * 23 * 3 * 3 * 4 * 10},
		{`ab`, api.Plan{Route: api.Machine}, 2, 64 * 12 * 3 * 3},
		{`ab`, api.Plan{Route: api.Machine, Plain: true}, 2, 1 << 62},
		{`ab`, api.Plan{Route: api.Machine, Plain: true}, -1, 0},
		{`\(a\)\1\1`, api.Plan{}, 1, 64 * (6 + 2 + 8) * 3 * 3 * 3 * 3},
		{`\(a\)\(b\)\2\1`, api.Plan{}, 1, 64 * (8 + 4 + 8) * 3 * 3 * 3 * 3 * 3 * 3},
		{`.`, api.Plan{Mode: chars}, 0, 64 * (32 + 8)},
		{``, api.Plan{}, 0, 64 * 9},
	} {
		c.plan.Room = 2
		if got := engine.Must(c.pattern, c.plan).Bound(c.n); got != c.want {
			t.Errorf("%q, %v: Bound(%d): %d, want %d", c.pattern, c.plan, c.n, got, c.want)
		}
		if got := boundOf(t, c.pattern, c.plan, c.n); got != c.want {
			t.Errorf("%q, %v: boundOf(%d): %d, want %d", c.pattern, c.plan, c.n, got, c.want)
		}
	}
}

// TestBound: P21.4, of many patterns and numbers: what is below 2^62 as it is, all others 2^62.
func TestBound(t *testing.T) {
	next := numbers(14)
	below, above := 0, 0
	for i := range 200 {
		mode := modes()[i%4]
		pattern := madePattern(next, mode, i%2 == 0)
		if _, err := engine.Compile(pattern, api.Plan{Mode: mode, Room: 2}); err != nil {
			continue
		}
		for _, a := range askAll(t, pattern, mode) {
			for _, n := range []int{math.MinInt, -2, -1, 0, 1, 2, 3, 10, 100, 1000, 12345, 1 << 20, 1<<31 - 1, 1 << 31, 1 << 40, 1<<52 - 1, 1 << 56, 1<<62 - 3, 1<<62 - 1, 1 << 62, math.MaxInt - 2, math.MaxInt - 1, math.MaxInt} {
				want := boundOf(t, pattern, a.plan, n)
				if got := a.Bound(n); got != want {
					t.Fatalf("%q, %v: Bound(%d): %d, want %d", pattern, a.plan, n, got, want)
				}
				if want == 1<<62 {
					above++
				} else {
					below++
				}
			}
			if a.Steps() != 0 {
				t.Fatalf("%q, %v: Bound did steps", pattern, a.plan)
			}
		}
	}
	if below < 5000 || above < 3000 {
		t.Errorf("%d below 2^62, %d not", below, above)
	}
}

// TestBoundAtItsLimit: P21.4, just below 2^62, just at it, and just above.
func TestBoundAtItsLimit(t *testing.T) {
	// With 8 these are 32 and 27: the bound comes to be 2^62, or goes past it.
	for pattern, size := range map[string]int{`a\{8\}`: 24, `\(\(\(aaaa\)\)\)\|\(\)`: 19} {
		e := engine.Must(pattern, api.Plan{Room: 2})
		if e.Size() != size {
			t.Fatalf("%q: the size %d", pattern, e.Size())
		}
		last := (1<<62)/(64*(size+8)) - 1 // the greatest n whose bound is not above
		for n := last - 2; n <= last+2; n++ {
			if want := boundOf(t, pattern, api.Plan{Room: 2}, n); e.Bound(n) != want || want == 1<<62 && n < last || want != 1<<62 && n > last {
				t.Errorf("%q: Bound(%d): %d, want %d", pattern, n, e.Bound(n), want)
			}
		}
	}
}
