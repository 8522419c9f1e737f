package compare_test

import (
	"reflect"
	"testing"

	"dredge/api"
	"dredge/compare"
)

// wider is trees that have all that a tree has, each at least as much as the one ahead of it, and the tree itself first.
func wider(n, other api.Node, mode api.Mode) []api.Node {
	either := alt(kidsOf(n)...)
	either.Kids = append(either.Kids, kidsOf(other)...)
	l := []api.Node{n, either, star(group(1, either)), star(all(mode))}
	for i := range l {
		l[i] = renumbered(l[i])
	}
	return l
}

func kidsOf(n api.Node) []api.Node {
	if n.Kind == api.NAlt {
		return copied(n).Kids
	}
	return []api.Node{n}
}

// TestWithinGoesOn: P22.4, of trees that have more and more.
func TestWithinGoesOn(t *testing.T) {
	t.Parallel()
	for i, mode := range modes() {
		trees := made(uint32(20+i), pool(mode), 60)
		for i, n := range trees {
			l := wider(n, trees[(i+1)%len(trees)], mode)
			for i, a := range l {
				for _, b := range l[i:] {
					within(t, a, b, mode)
				}
			}
		}
	}
}

// relation is what is told of two trees.
type relation struct {
	in, back, same          bool
	line, backLine, oneHere string
}

func relationOf(t *testing.T, a, b api.Node, mode api.Mode) relation {
	t.Helper()
	var r relation
	var e, f, g api.Errno
	r.in, r.line, e = compare.Within(a, b, mode)
	r.back, r.backLine, f = compare.Within(b, a, mode)
	r.same, r.oneHere, g = compare.Same(a, b, mode)
	if e != api.OK || f != api.OK || g != api.OK {
		t.Fatalf("of %s and %s, %v: %v, %v, %v", brief(a), brief(b), mode, e, f, g)
	}
	return r
}

// TestRelations: P22.4, of each two and each three of small and made trees: Within goes on, two are the same just if each is within the other, then their numbers are the same; a line that is told is matched by one as a whole, and not by the other.
func TestRelations(t *testing.T) {
	t.Parallel()
	found := map[string]int{}
	for i, mode := range modes() {
		trees := made(uint32(30+i), pool(mode), 25)
		for _, pattern := range []string{`-*`, `-\{0,1\}`, `--*`, `-\+`, `[-+]*`, `.*`, `\(-\|+\)*`, `^-*$`, `-\{2,\}`} {
			trees = append(trees, of(t, pattern, mode))
		}
		numbers := make([]int, len(trees))
		in := make([][]bool, len(trees))
		for i, a := range trees {
			in[i] = make([]bool, len(trees))
			numbers[i], _ = compare.States(a, mode)
			for j, b := range trees {
				r := relationOf(t, a, b, mode)
				in[i][j] = r.in
				if why := unsound(r, a, b, mode); why != "" {
					t.Fatalf("of %s and %s, %v: %s: %v", brief(a), brief(b), mode, why, r)
				}
				if j < i && r.same && numbers[i] != numbers[j] {
					t.Fatalf("%s and %s, %v, are the same; their numbers are %d and %d", brief(a), brief(b), mode, numbers[i], numbers[j])
				}
				if i != j && r.same {
					found["same"]++
				}
			}
		}
		goesOn(t, in, found)
	}
	enough(t, found, 20, "same", "goes on")
}

// goesOn holds that what is within what is within a third one is within that.
func goesOn(t *testing.T, in [][]bool, found map[string]int) {
	t.Helper()
	for a := range in {
		if !in[a][a] {
			t.Fatalf("the tree %d is not within itself", a)
		}
		for b := range in {
			for c := range in {
				if in[a][b] && in[b][c] && !in[a][c] {
					t.Fatalf("the tree %d is within %d, and that within %d", a, b, c)
				}
				if a != b && b != c && a != c && in[a][b] && in[b][c] {
					found["goes on"]++
				}
			}
		}
	}
}

// unsound is what is not as it follows from the promises, if anything.
func unsound(r relation, a, b api.Node, mode api.Mode) string {
	isIn := func(line string, n api.Node) bool { return readingOf(line, mode).isIn(n) }
	switch {
	case r.same != (r.in && r.back):
		return "the same, and within each other"
	case r.in && r.line != "" || r.back && r.backLine != "" || r.same && r.oneHere != "":
		return "a line, and none is to be told"
	case !r.in && (!isIn(r.line, a) || isIn(r.line, b)):
		return "the line of the first one"
	case !r.back && (!isIn(r.backLine, b) || isIn(r.backLine, a)):
		return "the line of the second one"
	case !r.same && isIn(r.oneHere, a) == isIn(r.oneHere, b):
		return "the line of one alone"
	case !r.in && r.back && r.oneHere != r.line || r.in && !r.back && r.oneHere != r.backLine:
		return "the only least line"
	case !r.in && !r.back && r.oneHere != lessOf(r.line, r.backLine):
		return "the less one of two least lines"
	}
	return ""
}

func lessOf(a, b string) string {
	if less(a, b) {
		return a
	}
	return b
}

// TestNumberAndSets: P22.4, a number is at least 1, and not above how many sets there are.
func TestNumberAndSets(t *testing.T) {
	for i, mode := range modes() {
		for _, n := range made(uint32(40+i), pool(mode), 100) {
			number, e := compare.States(n, mode)
			if s, is := setsOf(n, mode, letters(mode), 40); e != api.OK || number < 1 || is && number > len(s.lines) {
				t.Fatalf("States of %s, %v: %d, %v; there are %d sets", brief(n), mode, number, e, len(s.lines))
			}
		}
	}
}

// TestKept: of the rules that hold everywhere: the same answers again, and nothing is written into what is handed in.
func TestKept(t *testing.T) {
	for i, mode := range modes() {
		trees := made(uint32(50+i), pool(mode), 40)
		for i, a := range trees {
			b := trees[(i+7)%len(trees)]
			first, second := copied(a), copied(b)
			r := relationOf(t, a, b, mode)
			number, _ := compare.States(a, mode)
			if again := relationOf(t, copied(a), copied(b), mode); again != r {
				t.Fatalf("of %s and %s, %v: %v, and then %v", brief(a), brief(b), mode, r, again)
			}
			states(t, a, mode, number)
			if !reflect.DeepEqual(copied(a), first) || !reflect.DeepEqual(copied(b), second) {
				t.Fatalf("%s or %s, %v, is not as it was", brief(a), brief(b), mode)
			}
		}
	}
}
