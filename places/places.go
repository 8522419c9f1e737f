// Package places tells which numbers are a line's places (shared/doc/00-patterns.md), for the layers that go from one to the next.
package places

import (
	"unicode/utf8"

	"dredge/api"
	"dredge/chars"
)

// Is tells whether a number is one of a line's places.
func Is(line string, at int, mode api.Mode) bool {
	if at < 0 || at > len(line) {
		return false
	}
	return !mode.Chars || !isWithin(line, at)
}

// isWithin tells whether a place stands between the bytes of a character. No byte but its first one begins a character: so what begins ahead is a unit of the line, and no more of the line need be looked at.
func isWithin(line string, at int) bool {
	for ahead := 1; ahead < utf8.UTFMax; ahead++ {
		if _, bytes := chars.Next(line, at-ahead); bytes > ahead {
			return true
		}
	}
	return false
}

// Next is the place behind one of a line's places: behind its last one a number that is none.
func Next(line string, at int, mode api.Mode) int {
	bytes := 1
	if mode.Chars {
		_, bytes = chars.Next(line, at)
	}
	return at + max(1, bytes)
}
