package dfa

import "iter"

// state is what a state stands for, as a text by which it can be found again: a byte of flags, then two bytes for each instruction that reads one (a program has fewer than 65536), rising. What else was come to does not show: it has led where it leads.
type state string

// How many bytes there are of flags, and for each instruction.
const (
	flagBytes = 1
	instBytes = 2
)

// The flags of a state.
const (
	isMatch = 1 << iota // there is a match, wherever the place is
	isLast              // there is one, if the place is the line's length
	isAnew              // the program begins at each place
)

// stateOf is a state of flags and of instructions that read bytes, rising.
func stateOf(flags byte, reads []int) state {
	text := make([]byte, 0, flagBytes+instBytes*len(reads))
	text = append(text, flags)
	for _, at := range reads {
		text = append(text, byte(at>>8), byte(at))
	}
	return state(text)
}

// matches tells whether the program matches up to a state's place, which is the line's length, or is not.
func (s state) matches(last bool) bool {
	return s[0]&isMatch != 0 || last && s[0]&isLast != 0
}

// anew tells whether the program begins at each place.
func (s state) anew() bool { return s[0]&isAnew != 0 }

// ended tells whether nothing can be come to any more, whatever stands behind.
func (s state) ended() bool { return len(s) == flagBytes && !s.anew() }

// reads goes over the instructions that read bytes.
func (s state) reads() iter.Seq[int] {
	return func(yield func(int) bool) {
		for k := flagBytes; k < len(s); k += instBytes {
			if !yield(int(s[k])<<8 | int(s[k+1])) {
				return
			}
		}
	}
}
