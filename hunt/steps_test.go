package hunt_test

import (
	"math"
	"strings"
	"testing"

	"dredge/api"
)

// hard is words at which one goes back again and again, or of which many end at one place.
func hard() [][]string {
	a999 := strings.Repeat("a", 999)
	return [][]string{
		{a999 + "b"},
		{a999 + "b", a999[:500] + "c", "aac"},
		nested("a", "b", api.MaxWords),
		nested("a", "", api.MaxWords),
		nested("ab", "c", api.MaxWords),
		{strings.Repeat("ab", 500), strings.Repeat("ba", 499) + "cc"},
		{"abaababaabaababaababa", "abaababaabaab" + "b", "abaababaa" + "b"},
		{"b" + a999, "c"},
		{a999 + "a", "b" + a999},
	}
}

func hardLines() []string {
	as := strings.Repeat("a", 3000)
	one, two := "a", "ab"
	for len(two) < 3000 {
		one, two = two, two+one
	}
	return []string{"", "a", "c", as, as + "b" + as, strings.Repeat("ab", 1500), strings.Repeat(as[:1001]+"b", 3), strings.Repeat("aab", 1000), strings.Repeat(as[:998]+"c", 3), two, strings.Repeat("sh", 500)}
}

// TestStepsOfAll: P19.4, no more than 16 times the bytes and one and what is told, where who tried each word at each place would do far more.
func TestStepsOfAll(t *testing.T) {
	for _, words := range hard() {
		a := ask(t, false, words...)
		for _, line := range hardLines() {
			for range 2 {
				a.all(line)
			}
		}
	}
}

// TestStepsOfNext: P19.4, no more than 16 times the bytes from the place on and one: what is ahead of it is not gone over, and what is not told is not counted.
func TestStepsOfNext(t *testing.T) {
	for _, words := range hard() {
		a := ask(t, true, words...)
		for _, line := range hardLines() {
			want := standsIn(words, true, line)
			for _, from := range []int{math.MinInt, -1, 0, 1, 2, len(line) / 2, len(line) - 3, len(line) - 2, len(line) - 1, len(line), len(line) + 1, math.MaxInt} {
				a.nextOf(want, line, from)
			}
		}
	}
}

// TestStepsOfNone: P19.4, each byte is gone over where no word stands; what may not be does next to nothing.
func TestStepsOfNone(t *testing.T) {
	a := ask(t, false, "ab", "abc", "cb")
	line := strings.Repeat("ac", 200)
	for _, from := range []int{0, 1, 399, 400} {
		a.next(line, from, stand{}, false)
	}
	for _, from := range []int{math.MinInt, -1, 401, math.MaxInt} {
		a.next(line, from, stand{}, false)
	}
	if got := a.all(line); len(got) > 0 {
		t.Error(got)
	}
}

// TestStepsOfFound: what Next tells is told as soon as nothing can stand ahead of it: the line is not gone over to its end.
func TestStepsOfFound(t *testing.T) {
	line := "xab" + strings.Repeat("xab", 10000)
	a := ask(t, false, "ab", "abxa", "xabb")
	for from := range 30 {
		done := a.done(func() {
			if _, _, ok := a.Next(line, from); !ok {
				t.Error("none from", from)
			}
		})
		a.bounded(done, 3, 2, line)
	}
}

// TestSameSteps: P19.4 and P4, two hunts of which the same is asked do the same; the sum never falls.
func TestSameSteps(t *testing.T) {
	next := numbers(3)
	for range 100 {
		words := []string{made(next, "ab", 1+next(5)), made(next, "abc", 1+next(3))}
		one, two := ask(t, false, words...), ask(t, false, words...)
		last := 0
		for range 20 {
			line, from := made(next, "abc", next(20)), next(22)-1
			for _, a := range []asked{one, two} {
				a.Next(line, from)
				told(a.All(line), from)
			}
			if one.Steps() != two.Steps() || one.Steps() < last {
				t.Fatalf("%q: %d and %d steps, behind %d", words, one.Steps(), two.Steps(), last)
			}
			last = one.Steps()
		}
	}
}
