package tree

import (
	"slices"

	"dredge/api"
	"dredge/chars"
	"dredge/classes"
)

// Cat is the tree of trees one behind the other.
func Cat(l ...api.Node) api.Node {
	var kids []api.Node
	for _, n := range l {
		switch n.Kind {
		case api.NEmpty:
		case api.NCat:
			kids = append(kids, n.Kids...)
		default:
			kids = append(kids, n)
		}
	}
	return joined(api.NCat, kids, api.Node{Kind: api.NEmpty})
}

// Alt is the tree of one of some trees.
func Alt(l ...api.Node) api.Node {
	var kids []api.Node
	for _, n := range l {
		if n.Kind == api.NAlt {
			kids = append(kids, n.Kids...)
		} else {
			kids = append(kids, n)
		}
	}
	return joined(api.NAlt, kids, api.Node{Kind: api.NSet})
}

// Rep is the tree of a tree's turns, from min to max of them.
func Rep(n api.Node, min, max int) (api.Node, api.Errno) {
	if !mayRepeat(n.Kind) {
		return api.Node{}, api.ErrTree
	}
	if !rightBounds(min, max) {
		return api.Node{}, api.ErrArg
	}
	return api.Node{Kind: api.NRep, Min: min, Max: max, Kids: []api.Node{copied(n)}}, api.OK
}

// Literal is the tree of a text.
func Literal(text string, mode api.Mode) (api.Node, api.Errno) {
	l, e := characters(text, mode)
	if e != api.OK {
		return api.Node{}, e
	}
	kids := make([]api.Node, len(l))
	for i, c := range l {
		kids[i] = character(c, mode)
	}
	return Cat(kids...), api.OK
}

// joined is the node of a kind that has some Kids; but of one Kid that one, and of no Kid what stands for nothing. The Kids are those of trees that were handed in: what is made of them is a copy.
func joined(kind int, kids []api.Node, nothing api.Node) api.Node {
	switch len(kids) {
	case 0:
		return nothing
	case 1:
		return copied(kids[0])
	}
	return copied(api.Node{Kind: kind, Kids: kids})
}

// copied is a tree in memory of its own.
func copied(n api.Node) api.Node {
	n.Ranges = slices.Clone(n.Ranges)
	n.Kids = slices.Clone(n.Kids)
	for i, kid := range n.Kids {
		n.Kids[i] = copied(kid)
	}
	return n
}

// characters is the characters of a text's units.
func characters(text string, mode api.Mode) ([]int, api.Errno) {
	if mode.Chars {
		return chars.Decode(text)
	}
	l := make([]int, len(text))
	for i := range l {
		l[i] = int(text[i])
	}
	return l, api.OK
}

// character is the node of one character.
func character(c int, mode api.Mode) api.Node {
	l := []api.Range{{Lo: c, Hi: c}}
	if mode.Fold {
		l = classes.Fold(l)
	}
	return api.Node{Kind: api.NSet, Ranges: l}
}
