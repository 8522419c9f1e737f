// Package sets is layer 1: see shared/doc/01-sets.md.
package sets

import (
	"iter"
	"math/bits"

	"dredge/api"
)

const (
	wordBits = 64
	maxByte  = 255
	caseGap  = 'a' - 'A'
)

// Of is the set of a text's bytes.
func Of(text string) api.Set {
	var s api.Set
	for i := range len(text) {
		s = With(s, int(text[i]))
	}
	return s
}

// Range is the set of the bytes from lo to hi.
func Range(lo, hi int) (api.Set, api.Errno) {
	if lo < 0 || lo > hi || hi > maxByte {
		return api.Set{}, api.ErrArg
	}
	return Less(below(hi+1), below(lo)), api.OK
}

// From is the set of the bytes of some ranges.
func From(l []api.Range) (api.Set, api.Errno) {
	var s api.Set
	for _, r := range l {
		part, e := Range(r.Lo, r.Hi)
		if e != api.OK {
			return api.Set{}, e
		}
		s = Or(s, part)
	}
	return s, api.OK
}

// Has tells whether a byte is in a set.
func Has(s api.Set, b int) bool {
	return And(s, only(b)) != api.Set{}
}

// With is a set with a byte.
func With(s api.Set, b int) api.Set {
	return Or(s, only(b))
}

// Without is a set without a byte.
func Without(s api.Set, b int) api.Set {
	return Less(s, only(b))
}

// Or is what is in one of both sets.
func Or(a, b api.Set) api.Set {
	for i, word := range b {
		a[i] |= word
	}
	return a
}

// And is what is in both sets.
func And(a, b api.Set) api.Set {
	for i, word := range b {
		a[i] &= word
	}
	return a
}

// Less is what is in the first set and not in the second.
func Less(a, b api.Set) api.Set {
	for i, word := range b {
		a[i] &^= word
	}
	return a
}

// Not is what is not in a set.
func Not(s api.Set) api.Set {
	for i := range s {
		s[i] = ^s[i]
	}
	return s
}

// Fold is a set with each letter in both cases.
func Fold(s api.Set) api.Set {
	folded := s
	for b := range All(s) {
		folded = With(folded, otherCase(b))
	}
	return folded
}

// Count is how many bytes are in a set.
func Count(s api.Set) int {
	n := 0
	for _, word := range s {
		n += bits.OnesCount64(word)
	}
	return n
}

// Next is the least byte in a set that is not below a number.
func Next(s api.Set, from int) (int, bool) {
	for i, word := range Less(s, below(from)) {
		if word != 0 {
			return i*wordBits + bits.TrailingZeros64(word), true
		}
	}
	return 0, false
}

// All goes over a set's bytes, rising.
func All(s api.Set) iter.Seq[int] {
	return func(yield func(int) bool) {
		for b, ok := Next(s, 0); ok; b, ok = Next(s, b+1) {
			if !yield(b) {
				return
			}
		}
	}
}

// Ranges is a set's bytes as a class.
func Ranges(s api.Set) []api.Range {
	var l []api.Range
	for b := range All(s) {
		if last := len(l) - 1; last >= 0 && l[last].Hi == b-1 {
			l[last].Hi = b
		} else {
			l = append(l, api.Range{Lo: b, Hi: b})
		}
	}
	return l
}

// only is the set of one byte. It is empty for a number that is no byte, so that nothing is had, put in or taken out then.
func only(b int) api.Set {
	var s api.Set
	if b >= 0 && b <= maxByte {
		s[b/wordBits] = uint64(1) << (b % wordBits)
	}
	return s
}

// below is the set of the bytes below any number.
func below(n int) api.Set {
	// Ahead of the subtraction, which a number far below 0 would make wrap round.
	n = min(max(n, 0), maxByte+1)
	var s api.Set
	for i := range s {
		ahead := min(max(n-i*wordBits, 0), wordBits)
		// A shift by all 64 leaves 0, and 0 less 1 is all ones.
		s[i] = uint64(1)<<ahead - 1
	}
	return s
}

// otherCase is a letter's other case, and any other byte itself.
func otherCase(b int) int {
	switch {
	case b >= 'A' && b <= 'Z':
		return b + caseGap
	case b >= 'a' && b <= 'z':
		return b - caseGap
	}
	return b
}
