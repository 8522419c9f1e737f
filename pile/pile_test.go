package pile_test

import (
	"iter"
	"math"
	"runtime"
	"slices"
	"testing"
	"weak"

	"dredge/api"
	"dredge/pile"
)

// piled is a pile of some things, the last one on top.
func piled[T any](things ...T) *pile.Pile[T] {
	p := pile.New[T]()
	for _, x := range things {
		p.Push(x)
	}
	return p
}

// holds asks a pile by every call that only asks, and tells what is otherwise than in the things, the lowest ahead.
func holds[T comparable](t *testing.T, p *pile.Pile[T], want []T) {
	t.Helper()
	if p.Len() != len(want) {
		t.Errorf("Len: %d; the things are %v", p.Len(), want)
	}
	asked := func(k int) (T, bool) {
		var none T
		if k < 0 || k >= len(want) {
			return none, false
		}
		return want[k], true
	}
	for k := -2; k <= len(want)+2; k++ {
		x, there := asked(k)
		if got, ok := p.At(k); got != x || ok != there {
			t.Errorf("At(%d): %v, %v; the things are %v", k, got, ok, want)
		}
	}
	x, there := asked(len(want) - 1)
	if got, ok := p.Top(); got != x || ok != there {
		t.Errorf("Top: %v, %v; the things are %v", got, ok, want)
	}
	down := slices.Clone(want)
	slices.Reverse(down)
	if got := slices.Collect(p.All()); !slices.Equal(got, down) {
		t.Errorf("All: %v; the things are %v", got, want)
	}
}

// farNumbers is numbers that lie below or past all that there is.
func farNumbers() []int {
	return []int{-1, -2, math.MinInt, math.MinInt32, api.MaxRoom + 1, math.MaxInt32, math.MaxInt}
}

// chance gives numbers that look like chance and are always the same ones.
func chance() func(below int) int {
	seed := uint32(1)
	return func(below int) int {
		seed = seed*1664525 + 1013904223
		return int(seed>>8) % below
	}
}

// TestNewPile: P4.1, an empty pile has nothing, however it is asked, and goes on working.
func TestNewPile(t *testing.T) {
	p := pile.New[int]()
	if p == nil {
		t.Fatal("New: nil")
	}
	for range 3 {
		if x, ok := p.Pop(); x != 0 || ok {
			t.Error("Pop of nothing:", x, ok)
		}
		holds(t, p, nil)
	}
	p.Push(4)
	holds(t, p, []int{4})
}

// TestPushAndPop: P4.1, up and down again, with all that is asked on the way.
func TestPushAndPop(t *testing.T) {
	p := pile.New[string]()
	var want []string
	for _, x := range []string{"a", "", "a", "bc", ""} {
		p.Push(x)
		want = append(want, x)
		holds(t, p, want)
	}
	for len(want) > 0 {
		last := want[len(want)-1]
		want = want[:len(want)-1]
		if x, ok := p.Pop(); x != last || !ok {
			t.Errorf("Pop: %q, %v, not %q", x, ok, last)
		}
		holds(t, p, want)
	}
	if x, ok := p.Pop(); x != "" || ok {
		t.Errorf("Pop of nothing: %q, %v", x, ok)
	}
}

// TestTopStays: P4.1.
func TestTopStays(t *testing.T) {
	p := piled(7, 8)
	for range 3 {
		if x, ok := p.Top(); x != 8 || !ok {
			t.Error("Top:", x, ok)
		}
	}
	holds(t, p, []int{7, 8})
}

// TestAtFar: P4.1, numbers that no pile has.
func TestAtFar(t *testing.T) {
	for _, p := range []*pile.Pile[int]{piled[int](), piled(5), piled(5, 6, 7)} {
		for _, k := range append(farNumbers(), p.Len(), p.Len()+1) {
			if x, ok := p.At(k); x != 0 || ok {
				t.Errorf("At(%d) of %d things: %d, %v", k, p.Len(), x, ok)
			}
		}
	}
}

// TestHigh: P4.1, a pile that is much higher than any of its lists was at first.
func TestHigh(t *testing.T) {
	const high = 200000
	p := pile.New[int]()
	for n := range high {
		p.Push(-n)
	}
	if p.Len() != high {
		t.Fatalf("Len: %d", p.Len())
	}
	for k := range high {
		if x, ok := p.At(k); x != -k || !ok {
			t.Fatalf("At(%d): %d, %v", k, x, ok)
		}
	}
	for n := high - 1; n >= 0; n-- {
		if x, ok := p.Pop(); x != -n || !ok || p.Len() != n {
			t.Fatalf("Pop: %d, %v, not %d; Len %d", x, ok, -n, p.Len())
		}
	}
	holds(t, p, nil)
}

// TestKindsOfThings: P4.1, a pile of anything; what is its type's zero value may lie there, and is told from nothing by the bool alone.
func TestKindsOfThings(t *testing.T) {
	type both struct {
		name string
		at   [2]int
	}
	holds(t, piled(both{"a", [2]int{1, 2}}, both{}, both{"b", [2]int{}}), []both{{"a", [2]int{1, 2}}, {}, {"b", [2]int{}}})
	holds(t, piled([3]bool{true}, [3]bool{}), [][3]bool{{true}, {}})
	holds(t, piled(struct{}{}, struct{}{}), []struct{}{{}, {}})
	holds(t, piled[any](1, nil, "1", 1.5, nil), []any{1, nil, "1", 1.5, nil})
	holds(t, piled[error](api.ErrArg, nil), []error{api.ErrArg, nil})
	n := 3
	holds(t, piled(&n, nil), []*int{&n, nil})
	within := piled(1)
	holds(t, piled(within, nil), []*pile.Pile[int]{within, nil})
}

// TestThingsAsTheyAre: P4.1 and Ways, a thing is kept as it is: what it leads to is its owner's, and is shared with it.
func TestThingsAsTheyAre(t *testing.T) {
	row := []int{1, 2, 3}
	p := piled(row[:2])
	row[0] = 9
	x, ok := p.Top()
	if !ok || !slices.Equal(x, []int{9, 2}) || cap(x) != cap(row) {
		t.Error("a row:", x, cap(x), ok)
	}
	x, _ = p.Pop()
	if &x[0] != &row[0] {
		t.Error("Pop of a row: another one")
	}
	calls := 0
	f := piled(func() { calls++ }, nil)
	if g, ok := f.Pop(); g != nil || !ok {
		t.Error("Pop of a function that is nil:", ok)
	}
	if g, ok := f.Pop(); g == nil || !ok {
		t.Error("Pop of a function:", ok)
	} else {
		g()
	}
	if g, ok := f.Pop(); g != nil || ok || calls != 1 {
		t.Error("Pop of no function:", ok, calls)
	}
}

// TestThingsAreCopies: P4.1, a thing that is a value is copied in and out: who has it may write into it.
func TestThingsAreCopies(t *testing.T) {
	pair := [2]int{1, 2}
	p := piled(pair)
	pair[0] = 9
	top, _ := p.Top()
	top[1] = 9
	low, _ := p.At(0)
	low[0] = 9
	for x := range p.All() {
		x[0] = 9
	}
	holds(t, p, [][2]int{{1, 2}})
}

// TestPilesApart: P4.1, what is done to one pile does not show in another.
func TestPilesApart(t *testing.T) {
	a, b := piled(1, 2), piled(1, 2)
	a.Push(3)
	b.Cut(1)
	b.Push(7)
	holds(t, a, []int{1, 2, 3})
	holds(t, b, []int{1, 7})
}

// TestCut: P4.2, each n of each height, and the pile goes on working.
func TestCut(t *testing.T) {
	things := []int{4, 0, 4, 7, 2}
	for high := range len(things) + 1 {
		for n := range high + 1 {
			p := piled(things[:high]...)
			if e := p.Cut(n); e != api.OK {
				t.Errorf("Cut(%d) of %d things: %v", n, high, e)
			}
			holds(t, p, things[:n])
			if e := p.Cut(n); e != api.OK {
				t.Errorf("Cut(%d) again: %v", n, e)
			}
			p.Push(9)
			p.Push(8)
			holds(t, p, append(slices.Clone(things[:n]), 9, 8))
		}
	}
}

// TestCutRefused: P4.2, a number below 0 or above Len: nothing is done. What was cut off is there no more, so it can't be cut back to.
func TestCutRefused(t *testing.T) {
	for _, things := range [][]int{nil, {5}, {5, 6, 7}} {
		p := piled(things...)
		for _, n := range append(farNumbers(), len(things)+1, len(things)+2) {
			if e := p.Cut(n); e != api.ErrArg {
				t.Errorf("Cut(%d) of %d things: %v", n, len(things), e)
			}
			holds(t, p, things)
		}
	}
	p := piled(5, 6, 7)
	p.Cut(1)
	for _, n := range []int{2, 3} {
		if e := p.Cut(n); e != api.ErrArg {
			t.Errorf("Cut(%d) behind Cut(1): %v", n, e)
		}
	}
	p.Pop()
	if e := p.Cut(1); e != api.ErrArg {
		t.Error("Cut(1) behind Pop:", e)
	}
	holds(t, p, nil)
}

// TestAllLeftEarly: P4.2, left early, then gone over again by the same function.
func TestAllLeftEarly(t *testing.T) {
	p := piled(2, 5, 0, 8)
	all := p.All()
	for most := 1; most <= 4; most++ {
		var l []int
		for x := range all {
			l = append(l, x)
			if len(l) == most {
				break
			}
		}
		if !slices.Equal(l, []int{8, 0, 5, 2}[:most]) {
			t.Errorf("the first %d: %v", most, l)
		}
	}
	if l := slices.Collect(all); !slices.Equal(l, []int{8, 0, 5, 2}) {
		t.Error("gone over again:", l)
	}
	holds(t, p, []int{2, 5, 0, 8})
}

// TestAllWithinItself: P4.2, and what is pushed between the two beginnings is seen by the inner one alone.
func TestAllWithinItself(t *testing.T) {
	p := piled(1, 4)
	all := p.All()
	var outer []int
	var inner [][]int
	for x := range all {
		outer = append(outer, x)
		p.Push(x + 2)
		inner = append(inner, slices.Collect(all))
	}
	if !slices.Equal(outer, []int{4, 1}) {
		t.Error("the outer:", outer)
	}
	if want := [][]int{{6, 4, 1}, {3, 6, 4, 1}}; !slices.EqualFunc(inner, want, slices.Equal) {
		t.Error("the inner:", inner)
	}
}

// TestAllWithChanges: P4.2, changes in its midst do not show in it, and have their effect.
func TestAllWithChanges(t *testing.T) {
	type change struct {
		name string
		do   func(p *pile.Pile[int], x int)
		want []int
	}
	changes := []change{
		{"Push", func(p *pile.Pile[int], x int) { p.Push(x + 10) }, []int{0, 3, 5, 15, 13, 10}},
		{"Pop", func(p *pile.Pile[int], x int) { p.Pop() }, nil},
		{"Pop and Push", func(p *pile.Pile[int], x int) { p.Pop(); p.Push(x + 10) }, []int{0, 3, 10}},
		{"Cut", func(p *pile.Pile[int], x int) { p.Cut(1) }, []int{0}},
		{"Cut and Push", func(p *pile.Pile[int], x int) { p.Cut(0); p.Push(7); p.Push(x); p.Push(7) }, []int{7, 0, 7}},
		{"Cut and Push of many", func(p *pile.Pile[int], x int) {
			p.Cut(0)
			for n := range 9 {
				p.Push(n)
			}
		}, []int{0, 1, 2, 3, 4, 5, 6, 7, 8}},
	}
	for _, c := range changes {
		p := piled(0, 3, 5)
		var l []int
		for x := range p.All() {
			l = append(l, x)
			c.do(p, x)
		}
		if !slices.Equal(l, []int{5, 3, 0}) {
			t.Errorf("%s: All %v", c.name, l)
		}
		holds(t, p, c.want)
	}
}

// TestAllPulled: P4.2, two that are gone over by turns, one of them begun ahead of a change.
func TestAllPulled(t *testing.T) {
	p := piled(3, 5)
	all := p.All()
	next, stop := iter.Pull(all)
	defer stop()
	if x, ok := next(); x != 5 || !ok {
		t.Fatal("the first:", x, ok)
	}
	p.Cut(0)
	p.Push(1)
	p.Push(2)
	if l := slices.Collect(all); !slices.Equal(l, []int{2, 1}) {
		t.Error("begun behind the change:", l)
	}
	if x, ok := next(); x != 3 || !ok {
		t.Error("the second:", x, ok)
	}
	if x, ok := next(); ok {
		t.Error("a third:", x)
	}
}

// TestAllMadeLongAgo: P4.2, what counts is when the range begins, not when its function was made.
func TestAllMadeLongAgo(t *testing.T) {
	p := pile.New[int]()
	all := p.All()
	for _, things := range [][]int{{}, {3}, {0, 8}, {1, 2, 3, 4, 5, 6, 7, 8, 0}, {4}} {
		p.Cut(0)
		for _, x := range things {
			p.Push(x)
		}
		want := slices.Clone(things)
		slices.Reverse(want)
		if l := slices.Collect(all); !slices.Equal(l, want) {
			t.Errorf("All of %v: %v", things, l)
		}
	}
}

// TestManyOnPile: P4.1, P4.2 and P4.5, long rows of calls of all kinds.
func TestManyOnPile(t *testing.T) {
	next := chance()
	p := pile.New[int]()
	var want []int
	for range 3000 {
		switch next(8) {
		case 0, 1, 2, 3:
			x := next(5)
			p.Push(x)
			want = append(want, x)
		case 4, 5:
			was, there := p.Top()
			if x, ok := p.Pop(); x != was || ok != there || there != (len(want) > 0) {
				t.Fatalf("Pop: %d, %v behind Top: %d, %v; the things are %v", x, ok, was, there, want)
			}
			want = want[:max(0, len(want)-1)]
		case 6:
			x := next(5)
			p.Push(x)
			if got, ok := p.Pop(); got != x || !ok {
				t.Fatalf("Pop behind Push(%d): %d, %v", x, got, ok)
			}
		case 7:
			n := next(len(want)+5) - 2
			refused := n < 0 || n > len(want)
			if e := p.Cut(n); (e == api.ErrArg) != refused || (e == api.OK) == refused {
				t.Fatalf("Cut(%d) of %d things: %v", n, len(want), e)
			}
			if !refused {
				want = want[:n]
			}
		}
		holds(t, p, want)
	}
}

// big is a thing that has a piece of memory of its own.
type big struct{ room [64]int }

// pushBig pushes so many of them, and tells how to see whether they are in memory still.
func pushBig(p *pile.Pile[*big], many int) []weak.Pointer[big] {
	var l []weak.Pointer[big]
	for range many {
		x := &big{}
		p.Push(x)
		l = append(l, weak.Make(x))
	}
	return l
}

// TestNothingHeld: P4.1 and P4.2, what is there no more is not held in memory by the pile.
func TestNothingHeld(t *testing.T) {
	p := pile.New[*big]()
	seen := pushBig(p, 6)
	p.Pop()
	p.Cut(2)
	runtime.GC()
	for k, w := range seen {
		if held := w.Value() != nil; held != (k < 2) {
			t.Errorf("the thing %d is held: %v", k, held)
		}
	}
	runtime.KeepAlive(p)
}
