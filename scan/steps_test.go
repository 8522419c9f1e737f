package scan_test

import (
	"strings"
	"testing"

	"dredge/api"
	"dredge/measure"
)

// done is how many steps something does.
func (a asked) done(what func()) int {
	steps := a.Steps()
	what()
	return a.Steps() - steps
}

// TestStepsOfBytes: P18.3, those of both automata: no byte from the place on can be left out where there is no part, and none of a part is gone over once alone; where all is kept there are few more.
func TestStepsOfBytes(t *testing.T) {
	line := strings.Repeat("a", 500)
	for _, c := range []struct {
		line        string
		from        int
		begin, end  int // (-1, -1): none
		least, most int // where all is kept
	}{
		{line, 0, -1, -1, 500, 4 * 501},
		{line, 400, -1, -1, 100, 4 * 501},
		{line, 500, -1, -1, 0, 4 * 501},
		{line + "b", 0, 0, 501, 2 * 501, 8 * 502},
		{line + "b" + line, 0, 0, 501, 1001 + 501, 8 * 1002},
		{"", 0, -1, -1, 0, 4},
		{"b", 0, 0, 1, 2, 16},
	} {
		a := ask(t, of(t, `a*b`, neither), neither, 100)
		call := func() {
			if c.begin < 0 {
				a.none(c.line, c.from)
			} else {
				a.tells(c.line, c.from, c.begin, c.end)
			}
		}
		first, second, third := a.done(call), a.done(call), a.done(call)
		if second < c.least || second > c.most || third != second || first <= second {
			t.Errorf("%q from %d: %d, %d, %d steps, want %d to %d where all is kept", short(c.line), c.from, first, second, third, c.least, c.most)
		}
	}
}

// TestStepsAtLeast: P18.3, what states are made of counts: where few are kept, it does again and again.
func TestStepsAtLeast(t *testing.T) {
	line := strings.Repeat("abaabb", 200)
	n := of(t, `c[ab]\{7\}a[ab]*`, neither)
	few, all := ask(t, n, neither, 2), ask(t, n, neither, api.MaxRoom)
	for range 3 {
		few.none(line, 0)
		all.none(line, 0)
	}
	if few.Steps() < 2*all.Steps() {
		t.Errorf("%d steps, where all is kept %d", few.Steps(), all.Steps())
	}
}

// TestStepsOfLong: P18.3, where who tried one place after the other would do far more, at each room.
func TestStepsOfLong(t *testing.T) {
	long := strings.Repeat("a", 20000)
	for _, pattern := range []string{`a*b`, `a*a*a*b`, `\(a*\)*b`, `\(a\|aa\)*b`, `a.\{50\}b`, `^a*b`, `b`, `\(a$\|a\)*b`, `a*$`, `ba*`, `\(\(a*\)*\)*`, `a.\{50\}$`} {
		for _, room := range []int{2, 10, 1000} {
			for _, mode := range modes() {
				a := ask(t, of(t, pattern, mode), mode, room)
				for _, from := range []int{0, 1, 19000, 19999, 20000} {
					a.find(long, from)
				}
			}
		}
	}
}

// TestStepsOfGreat: P18.3, great trees, at small rooms.
func TestStepsOfGreat(t *testing.T) {
	next := numbers(3)
	var bytes [600]byte
	for i := range bytes {
		bytes[i] = byte('a' + next(1000)/500)
	}
	line := string(bytes[:])
	for _, pattern := range []string{`\(a\{0,250\}b\{0,250\}\)\{6\}`, `\([ab]\{0,120\}\)\{27\}$`, `\(\(a*b*\)*\)\{255\}c`, `\(a\|b\|ab\|ba\)\{100,250\}`} {
		for _, room := range []int{2, 5, 1000} {
			n := of(t, pattern, neither)
			if size := measure.Size(n, neither); size < 3000 {
				t.Fatalf("%s: the size %d", pattern, size)
			}
			a := ask(t, n, neither, room)
			for _, from := range []int{0, 300, 600} {
				a.find(line, from)
				a.find(line+"c", from)
			}
		}
	}
	for _, n := range []api.Node{of(t, `\([^a]\{1,20\}\)\{12\}$`, chars), of(t, `.\{180\}`, chars)} {
		if size := measure.Size(n, chars); size < 5000 {
			t.Fatalf("the size %d", size)
		}
		for _, room := range []int{2, 1000} {
			a := ask(t, n, chars, room)
			r := readingOf(strings.Repeat("é€😀\xa9", 10)+strings.Repeat("é€😀", 70), chars)
			a.holds(r, 0)
			a.holds(r, 100)
		}
	}
}

// TestStepsOfShort: P18.3, in lines of no bytes, and at the line's end: no more than a tree's size allows.
func TestStepsOfShort(t *testing.T) {
	for _, mode := range modes() {
		for _, n := range []api.Node{empty(), set(), begin(), end(), char('-'), star(char('-')), alt(empty(), begin(), end()), rep(group(1, alt(begin(), end(), empty())), 255, 255)} {
			for _, room := range rooms() {
				a := ask(t, n, mode, room)
				for _, line := range []string{"", "-", "0", "é"} {
					a.holds(readingOf(line, mode), 0)
					a.holds(readingOf(line, mode), len(line))
				}
			}
		}
	}
}

// TestSameSteps: P18.3 and P4, two scans of which the same is asked do the same; the sum never falls.
func TestSameSteps(t *testing.T) {
	next := numbers(12)
	for i := range 200 {
		mk := &maker{next: next, mode: modes()[i%4]}
		n := mk.pattern(1)
		if measure.Size(n, mk.mode) > 300 {
			continue
		}
		room := 2 + next(4)
		one, two := ask(t, n, mk.mode, room), ask(t, n, mk.mode, room)
		last := 0
		for range 20 {
			line := madeLine(next, alphabet(mk.mode), 10)
			from := next(len(line)+3) - 1
			one.Find(line, from)
			two.Find(line, from)
			if one.Steps() != two.Steps() || one.Steps() < last {
				t.Fatalf("%s, %v, room %d: %d and %d steps, behind %d", brief(n), mk.mode, room, one.Steps(), two.Steps(), last)
			}
			last = one.Steps()
		}
	}
}
