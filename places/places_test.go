package places_test

import (
	"math"
	"slices"
	"testing"
	"unicode/utf8"

	"dredge/api"
	"dredge/places"
)

// linesOf is all lines of at most so many of some letters.
func linesOf(letters []string, most int) []string {
	l := []string{""}
	last := l
	for range most {
		var longer []string
		for _, line := range last {
			for _, letter := range letters {
				longer = append(longer, line+letter)
			}
		}
		l, last = append(l, longer...), longer
	}
	return l
}

// placesOf is chapter 00's places, unit by unit from the line's beginning.
func placesOf(line string, mode api.Mode) []int {
	l := []int{0}
	for at := 0; at < len(line); {
		bytes := 1
		if mode.Chars {
			_, bytes = utf8.DecodeRuneInString(line[at:])
		}
		at += bytes
		l = append(l, at)
	}
	return l
}

// TestPlaces: chapter 00, of lines of all kinds of units: which numbers are places, and which place comes next.
func TestPlaces(t *testing.T) {
	lines := linesOf([]string{"a", "\x80", "\xbf", "\xc2", "\xe0", "\xed", "\xa0", "\xf4", "\x90"}, 4)
	lines = append(lines, linesOf([]string{"a", "é", "€", "\U0001f600", "\xa9"}, 3)...)
	lines = append(lines, "\xf0\x8f\xbf\xbf", "\xf0\x90\x80\x80", "\xf4\x8f\xbf\xbf", "\xf4\x90\x80\x80", "\xef\xbf\xbd", "\xef\xbf\xbda", "\xc1\xbf", "\xff", "\xc0\x80", "\xed\x9f\xbf", "\xee\x80\x80", "é\xa9\xa9\xa9\xa9", "\xf0\x9f\x98", "\xf0\x9f\x98\x80\x80")
	for _, mode := range []api.Mode{{}, {Chars: true}, {Fold: true}, {Chars: true, Fold: true}} {
		for _, line := range lines {
			want := placesOf(line, mode)
			for at := -5; at <= len(line)+5; at++ {
				if got := places.Is(line, at, mode); got != slices.Contains(want, at) {
					t.Fatalf("Is(%q, %d, %v): %v", line, at, mode, got)
				}
			}
			for i, at := range want {
				after := len(line) + 1
				if i+1 < len(want) {
					after = want[i+1]
				}
				if got := places.Next(line, at, mode); got != after {
					t.Fatalf("Next(%q, %d, %v): %d, want %d", line, at, mode, got, after)
				}
			}
			if places.Is(line, math.MinInt, mode) || places.Is(line, math.MaxInt, mode) {
				t.Fatalf("%q, %v: numbers far off are places", line, mode)
			}
		}
	}
}
