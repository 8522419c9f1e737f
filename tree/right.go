package tree

import (
	"dredge/api"
	"dredge/classes"
)

// maxBack is the greatest number of a group that may be referred to.
const maxBack = 9

// spot is a node, and how many of its Kids have come up.
type spot struct {
	node api.Node
	seen int
}

// checker looks at a tree's nodes, one by one in the tree's order. All those that it has looked at are right.
type checker struct {
	mode   api.Mode
	ahead  int // how many nodes have been looked at
	groups int // how many of them are NGroups
	// The last node that has been looked at and those around it, by how deep they are. What stands at 0 has no kind, and the tree's own node as its Kid.
	around [api.MaxNest + 1]spot
}

// Right tells what is wrong with a tree first.
func Right(n api.Node, mode api.Mode) api.Errno {
	c := checker{mode: mode}
	for deep, node := range nodes(n) {
		if e := c.look(deep, node); e != api.OK {
			return e
		}
	}
	return api.OK
}

// look tells what is wrong first with the next node, which is so deep.
func (c *checker) look(deep int, n api.Node) api.Errno {
	switch {
	case c.ahead == api.MaxNodes:
		return api.ErrMany
	case deep > api.MaxNest:
		return api.ErrDeep
	case !c.mayStand(deep, n.Kind) || !rightFields(n, c.mode, c.groups+1) || !rightKids(n):
		return api.ErrTree
	case n.Kind == api.NGroup && n.N > api.MaxGroups:
		return api.ErrMany
	case n.Kind == api.NBack && !c.hasEnded(deep, n.N):
		return api.ErrBack
	}
	c.enter(deep, n)
	return api.OK
}

// enter takes a node up that is right.
func (c *checker) enter(deep int, n api.Node) {
	c.ahead++
	if n.Kind == api.NGroup {
		c.groups++
	}
	c.around[deep-1].seen++
	c.around[deep] = spot{node: n}
}

// mayStand tells whether the next node may be of a kind. An NCat that is right is a branch wherever it stands: so of anchors their place in it alone is asked.
func (c *checker) mayStand(deep, kind int) bool {
	parent := c.around[deep-1]
	switch parent.node.Kind {
	case api.NCat:
		first, last := parent.seen == 0, parent.seen == len(parent.node.Kids)-1
		return mayRepeat(kind) || kind == api.NBegin && first || kind == api.NEnd && last
	case api.NRep:
		return mayRepeat(kind)
	case api.NAlt:
		return isKind(kind) && kind != api.NAlt
	}
	return isKind(kind)
}

// hasEnded tells whether a group has ended ahead of the next node.
func (c *checker) hasEnded(deep, number int) bool {
	for _, s := range c.around[:deep] {
		if s.node.Kind == api.NGroup && s.node.N == number {
			return false
		}
	}
	return number <= c.groups
}

func isKind(kind int) bool {
	return kind >= api.NEmpty && kind <= api.NRep
}

// mayRepeat tells whether a kind may be an NRep's Kid.
func mayRepeat(kind int) bool {
	switch kind {
	case api.NSet, api.NGroup, api.NBack, api.NRep:
		return true
	}
	return false
}

// rightFields tells whether a node, which as a group would have a number, has the fields of its kind. Those that the kind has are asked, and put away; of the others nothing may be left.
func rightFields(n api.Node, mode api.Mode, number int) bool {
	right := true
	switch n.Kind {
	case api.NSet:
		right = rightSet(n.Ranges, mode)
		n.Ranges = nil
	case api.NGroup:
		right = n.N == number
		n.N = 0
	case api.NBack:
		right = n.N >= 1 && n.N <= maxBack
		n.N = 0
	case api.NRep:
		right = rightBounds(n.Min, n.Max)
		n.Min, n.Max = 0, 0
	}
	return right && n.N == 0 && n.Min == 0 && n.Max == 0 && len(n.Ranges) == 0
}

func rightSet(l []api.Range, mode api.Mode) bool {
	return classes.Right(l, mode.Chars) && (!mode.Fold || classes.Same(l, classes.Fold(l)))
}

func rightBounds(least, most int) bool {
	return least >= 0 && least <= api.MaxBound && (most == api.Infinite || most >= least && most <= api.MaxBound)
}

// rightKids tells whether a node has as many Kids as its kind asks for.
func rightKids(n api.Node) bool {
	switch n.Kind {
	case api.NCat, api.NAlt:
		return len(n.Kids) >= 2
	case api.NGroup, api.NRep:
		return len(n.Kids) == 1
	}
	return len(n.Kids) == 0
}
