package engine

import (
	"slices"

	"dredge/api"
	"dredge/tree"
)

// copied is a tree in memory of its own.
func copied(n api.Node) api.Node {
	n.Ranges, n.Kids = slices.Clone(n.Ranges), slices.Clone(n.Kids)
	for i, kid := range n.Kids {
		n.Kids[i] = copied(kid)
	}
	return n
}

// turnsOf is, of each NRep of a tree, how many turns it tells apart.
func turnsOf(n api.Node) []int {
	var l []int
	for _, node := range tree.All(n) {
		if node.Kind == api.NRep {
			// Infinite is below each Min.
			l = append(l, max(node.Min, node.Max))
		}
	}
	return l
}
