package compile_test

import (
	"slices"
	"testing"
	"unicode/utf8"

	"dredge/api"
	"dredge/classes"
)

// edges is characters at which something begins or ends: how many bytes there are, a value of one of them, and one more or less.
func edges() []int {
	var l []int
	for _, c := range []int{0, 65, 97, 128, 0xbf, 0xc0, 0xe9, 0x800, 0x830, 0x1000, 0x1041, 0x20ac, 0xd000, 0xd800, 0xe000, 0xf000, 0xf041, 0x10000, 0x10041, 0x11000, 0x11041, 0x40000, 0x41041, 0x100000, 0x101041, 0x10ffc0, api.MaxRune, api.MaxRune + 1} {
		l = append(l, c-1, c, c+1)
	}
	l = slices.DeleteFunc(l, func(c int) bool { return !utf8.ValidRune(rune(c)) })
	slices.Sort(l)
	return slices.Compact(l)
}

// spelled tells whether a program, in a text turned round, too, matches just the whole of it, or nothing.
func spelled(p, turned api.Program, text string) (bool, bool) {
	just := func(l []int) bool { return len(l) == 1 && l[0] == len(text) }
	return just(played(p, text, 0)), just(played(turned, reversed(text), 0))
}

// classHolds: the programs of a class match just its characters.
func classHolds(t *testing.T, class []api.Range, mode api.Mode, characters []int) {
	t.Helper()
	n := api.Node{Kind: api.NSet, Ranges: class}
	programs := []api.Program{}
	for _, c := range compilers() {
		programs = append(programs, programOf(t, c, n, mode))
	}
	for _, c := range characters {
		want := classes.Has(class, c)
		text := string(rune(c))
		if is, around := spelled(programs[0], programs[2], text); is != want || around != want {
			t.Fatalf("%v, %v: %d: %v, and turned round %v", class, mode, c, is, around)
		}
		if is, _ := spelled(programs[1], programs[2], text); is != want {
			t.Fatalf("Counted of %v, %v: %d: %v", class, mode, c, is)
		}
	}
}

// TestRanges: P15.1 to P15.3, with Chars, each range from an edge to another: of how many instructions its programs are, and what they match.
func TestRanges(t *testing.T) {
	l := edges()
	for i, lo := range l {
		for j, hi := range l[i:] {
			if lo < 0xd800 && hi > 0xd800 {
				break
			}
			// A range that ends next to another one's end is played at edges nearby alone.
			near := []int{lo, hi, l[max(i-1, 0)], l[min(i+j+1, len(l)-1)]}
			if (i+j)%7 == 0 {
				near = l
			}
			classHolds(t, []api.Range{{Lo: lo, Hi: hi}}, chars, near)
		}
	}
}

// TestClasses: P15.1 to P15.3, with Chars, classes of several ranges, near each other and far.
func TestClasses(t *testing.T) {
	next := numbers(31)
	l := edges()
	for i := range 300 {
		var ranges []api.Range
		for range 1 + next(9) {
			lo := l[next(len(l))]
			hi := lo + next(5)
			if next(4) == 0 {
				hi = l[next(len(l))]
			}
			ranges = append(ranges, api.Range{Lo: lo, Hi: hi})
		}
		if i%3 == 0 {
			ranges = classes.Not(ranges, true)
		}
		classHolds(t, classes.Norm(ranges, true), chars, l)
		classHolds(t, classes.Norm(classes.Fold(ranges), true), both, l)
	}
	classHolds(t, nil, chars, l)
}

// TestLatin: P15.1 to P15.3, with Chars, every class of some neighbours, and each of their characters.
func TestLatin(t *testing.T) {
	next := numbers(37)
	for range 200 {
		var ranges []api.Range
		var all []int
		from := []int{0x60, 0xa0, 0x7e0, 0x7f0, 0xfff0, 0x103e, 0x10ff0}[next(7)]
		for c := from; c < from+48; c++ {
			all = append(all, c)
			if next(3) > 0 {
				ranges = append(ranges, api.Range{Lo: c, Hi: c})
			}
		}
		classHolds(t, classes.Norm(ranges, true), chars, all)
	}
}

// TestNoCharacters: P15.1 and P15.3, with Chars, bytes that are no character are in no set, whatever stands beside them.
func TestNoCharacters(t *testing.T) {
	every := api.Node{Kind: api.NSet, Ranges: classes.Not(nil, true)}
	var programs []api.Program
	for _, c := range compilers() {
		programs = append(programs, programOf(t, c, every, chars))
	}
	lines := linesOf([]string{"a", "\x80", "\xbf", "\xc2", "\xe0", "\xed", "\xa0", "\xf4", "\x90", "\xf8"}, 4)
	for _, line := range append(lines, "\xf0\x8f\xbf\xbf", "\xf0\x90\x80\x80", "\xef\xbf\xbd", "\xc1\xbf", "\xff") {
		want := partsOf(line, chars, func(at int) []int {
			if r, n := utf8.DecodeRuneInString(line[at:]); n > 1 || n == 1 && r != utf8.RuneError {
				return []int{at + n}
			}
			return nil
		})
		for _, p := range programs[:2] {
			if got := partsOf(line, chars, func(at int) []int { return played(p, line, at) }); !same(got, want) {
				t.Fatalf("%q: %v, not %v", line, got, want)
			}
		}
		if got := fromBehind(programs[2], line, chars); !same(got, want) {
			t.Fatalf("%q turned round: %v, not %v", line, got, want)
		}
	}
}
