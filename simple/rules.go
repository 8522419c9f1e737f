package simple

import (
	"slices"

	"dredge/api"
	"dredge/classes"
	"dredge/tree"
)

// rule is what may be said of the nodes of a kind: which one matches the same and is smaller, if there is one. It leaves what it is given as it is, keeps all groups, and makes nothing that may not stand where the node stands.
type rule struct {
	kind int
	says func(n api.Node) (api.Node, bool)
}

func rules() []rule {
	return []rule{
		{api.NRep, oneTurn},
		{api.NRep, turnsOfTurns},
		{api.NRep, noTurn},
		{api.NRep, turnsOfNothing},
		{api.NCat, withoutEmptys},
		{api.NAlt, withOneSet},
		{api.NAlt, withoutTwins},
	}
}

// oneTurn: a Kid that comes just once is all there is.
func oneTurn(n api.Node) (api.Node, bool) {
	return n.Kids[0], n.Min == 1 && n.Max == 1
}

// turnsOfTurns: any number of turns, any number of times, are any number of turns.
func turnsOfTurns(n api.Node) (api.Node, bool) {
	return n.Kids[0], anyNumber(n) && anyNumber(n.Kids[0])
}

// noTurn: what never comes is nothing; but a group stays, as those behind it are counted from it on.
func noTurn(n api.Node) (api.Node, bool) {
	return api.Node{Kind: api.NEmpty}, n.Max == 0 && tree.Groups(n) == 0
}

// turnsOfNothing: no right tree has an NEmpty there, but what a rule has made of a Kid may be one.
func turnsOfNothing(n api.Node) (api.Node, bool) {
	return api.Node{Kind: api.NEmpty}, n.Kids[0].Kind == api.NEmpty
}

// withoutEmptys: as with turnsOfNothing, such Kids are what rules have made.
func withoutEmptys(n api.Node) (api.Node, bool) {
	if !slices.ContainsFunc(n.Kids, func(kid api.Node) bool { return kid.Kind == api.NEmpty }) {
		return api.Node{}, false
	}
	return tree.Cat(n.Kids...), true
}

// withOneSet: in the place of the first of several NSets stands one that has the characters of all.
func withOneSet(n api.Node) (api.Node, bool) {
	var kids []api.Node
	var all []api.Range
	first, sets := 0, 0
	for _, kid := range n.Kids {
		if kid.Kind == api.NSet {
			all = append(all, kid.Ranges...)
			sets++
			if sets > 1 {
				continue
			}
			first = len(kids)
		}
		kids = append(kids, kid)
	}
	if sets < 2 {
		return api.Node{}, false
	}
	kids[first].Ranges = classes.Or(all, nil)
	return tree.Alt(kids...), true
}

// withoutTwins: of Kids that are the same the first stays. No two with groups are the same, since the numbers of these differ.
func withoutTwins(n api.Node) (api.Node, bool) {
	var kids []api.Node
	for _, kid := range n.Kids {
		if !slices.ContainsFunc(kids, func(other api.Node) bool { return tree.Same(kid, other) }) {
			kids = append(kids, kid)
		}
	}
	if len(kids) == len(n.Kids) {
		return api.Node{}, false
	}
	return tree.Alt(kids...), true
}

// anyNumber tells whether a node is an NRep without bounds.
func anyNumber(n api.Node) bool {
	return n.Kind == api.NRep && n.Min == 0 && n.Max == api.Infinite
}
