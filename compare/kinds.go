package compare

import (
	"slices"

	"dredge/api"
	"dredge/chars"
	"dredge/classes"
	"dredge/tree"
)

// kinds are characters by the positions that may read them: two of one kind are read by the same ones.
type kinds struct {
	begins  []int // where stretches of characters of one kind begin, rising
	of      []int // the kind of each stretch
	readers []set // the positions that may read a kind
}

// kindsOf is the kinds by the positions of a tree that is written out.
func kindsOf(n api.Node, positions [][]api.Range, mode api.Mode) kinds {
	k := kinds{begins: cuts(n, mode)}
	numbers := map[set]int{}
	passed := make([]int, len(positions)) // how many ranges of each one lie below
	for _, c := range k.begins {
		var s set
		for position, class := range positions {
			at := passed[position]
			if at < len(class) && class[at].Hi < c {
				at++
				passed[position] = at
			}
			if at < len(class) && class[at].Lo <= c {
				s.put(position)
			}
		}
		number, known := numbers[s]
		if !known {
			number = len(k.readers)
			numbers[s] = number
			k.readers = append(k.readers, s)
		}
		k.of = append(k.of, number)
	}
	return k
}

// cuts is the characters at which a range of a tree begins, or what is behind one.
func cuts(n api.Node, mode api.Mode) []int {
	all := classes.Not(nil, mode.Chars)
	ranges := slices.Clone(all)
	for _, node := range tree.All(n) {
		ranges = append(ranges, node.Ranges...)
	}
	var l []int
	for _, r := range ranges {
		l = append(l, r.Lo, r.Hi+1)
	}
	slices.Sort(l)
	l = slices.Compact(l)
	return slices.DeleteFunc(l, func(c int) bool { return !classes.Has(all, c) })
}

// stretch is where the stretch stands in which a character is.
func (k kinds) stretch(c int) int {
	i, begins := slices.BinarySearch(k.begins, c)
	if !begins {
		i--
	}
	return i
}

func (k kinds) kind(c int) int {
	return k.of[k.stretch(c)]
}

// step is a character's bytes, and its kinds in two automata.
type step struct {
	text  string
	kinds pair
}

// stepsOf is the least character of each two kinds that have one in common, rising. No other one leads to a less line.
func stepsOf(a, b kinds, mode api.Mode) []step {
	begins := slices.Concat(a.begins, b.begins)
	slices.Sort(begins)
	var l []step
	known := map[pair]int{}
	for _, c := range begins {
		k := pair{a.kind(c), b.kind(c)}
		if _, again := known[k]; !again {
			known[k] = c
			l = append(l, step{textOf(c, mode), k})
		}
	}
	return l
}

func textOf(c int, mode api.Mode) string {
	if !mode.Chars {
		return string([]byte{byte(c)})
	}
	text, _ := chars.Encode([]int{c})
	return text
}
