package compare

import (
	"math/bits"

	"dredge/api"
)

const (
	wordBits = 64
	// A position counts in a tree's size: there are no more of them.
	words = (api.MaxSize + wordBits - 1) / wordBits
)

// set is a set of positions. As an array it is compared as a whole.
type set [words]uint64

func (s *set) put(position int) {
	s[position/wordBits] |= 1 << (position % wordBits)
}

// common is the positions that are in both.
func common(a, b *set) set {
	var both set
	for i := range both {
		both[i] = a[i] & b[i]
	}
	return both
}

// behindAll is the spots behind a set's positions.
func (w *written) behindAll(s *set) []int {
	var l []int
	for i, word := range s {
		for ; word != 0; word &= word - 1 {
			l = append(l, w.behind[i*wordBits+bits.TrailingZeros64(word)])
		}
	}
	return l
}

// automaton is states, of which the first one is the empty line's: of each whether lines that lead there are in the language, and where it leads by each kind of characters.
type automaton struct {
	kinds kinds
	in    []bool
	moves [][]int
}

// setsOf is an automaton whose states are a tree's sets.
func setsOf(n api.Node, mode api.Mode) (automaton, api.Errno) {
	w := newWalker(writtenOut(n))
	a := automaton{kinds: kindsOf(n, w.positions, mode)}
	// The empty line's set is none of the others: it has no number by its positions.
	sets, numbers := []set{{}}, map[set]int{}
	for at := 0; at < len(sets); at++ {
		if at == 0 {
			w.walk([]int{w.begin}, true)
		} else {
			w.walk(w.behindAll(&sets[at]), false)
		}
		var moves []int
		for i := range a.kinds.readers {
			next := common(&w.ahead, &a.kinds.readers[i])
			number, known := numbers[next]
			if !known {
				if len(sets) == api.MaxStates {
					return automaton{}, api.ErrMany
				}
				number = len(sets)
				numbers[next] = number
				sets = append(sets, next)
			}
			moves = append(moves, number)
		}
		a.in = append(a.in, w.matches)
		a.moves = append(a.moves, moves)
	}
	return a, api.OK
}
