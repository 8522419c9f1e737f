package dfa

import (
	"dredge/api"
	"dredge/sets"
)

// kindsOf is each byte's kind, numbered from 0 on: bytes of one kind stand side by side, and no instruction tells them apart, so that a state leads to the same one by all of them.
func kindsOf(insts []api.Inst) [256]int {
	var edges api.Set
	for i := range insts {
		// The sets of instructions that read nothing have no byte, and so no edge.
		edges = sets.Or(edges, edgesOf(insts[i].Set))
	}
	var kinds [256]int
	kind := 0
	for b := range kinds {
		if b > 0 && sets.Has(edges, b) {
			kind++
		}
		kinds[b] = kind
	}
	return kinds
}

// edgesOf is the bytes that are in a set while the one ahead of them is not, or the other way round.
func edgesOf(s api.Set) api.Set {
	var edges api.Set
	carry := uint64(0)
	for w, word := range s {
		edges[w] = word ^ (word<<1 | carry)
		carry = word >> 63
	}
	return edges
}
