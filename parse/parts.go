package parse

import (
	"dredge/api"
	"dredge/tree"
)

// part is a part of a tree that is not yet whole: a leaf, a group, turns, a row or a choice. Nodes are made of parts when it is known that they are neither too deep nor too many: what is refused is never written out.
type part interface {
	within() []part
}

// leaf is a node that has nothing within it.
type leaf struct{ node api.Node }

// group is a group of that number.
type group struct {
	number int
	kid    part
}

// turns is a thing so many times.
type turns struct {
	least, most int
	kid         part
}

// row is a branch's items, one behind the other: none, or two and more.
type row struct{ items []part }

// choice is a pattern's branches, two and more.
type choice struct{ branches []part }

func (leaf) within() []part     { return nil }
func (g group) within() []part  { return []part{g.kid} }
func (t turns) within() []part  { return []part{t.kid} }
func (r row) within() []part    { return r.items }
func (c choice) within() []part { return c.branches }

// measure is how many nodes a part has, and how deep they go.
func measure(p part) (nodes, deep int) {
	for _, q := range p.within() {
		n, d := measure(q)
		nodes += n
		deep = max(deep, d)
	}
	return nodes + 1, deep + 1
}

// node is a part as a tree.
func node(p part) (n api.Node) {
	switch x := p.(type) {
	case leaf:
		n = x.node
	case group:
		n = api.Node{Kind: api.NGroup, N: x.number, Kids: nodes(x)}
	case turns:
		n = api.Node{Kind: api.NRep, Min: x.least, Max: x.most, Kids: nodes(x)}
	case row:
		n = tree.Cat(nodes(x)...)
	case choice:
		n = tree.Alt(nodes(x)...)
	}
	return n
}

// nodes is the trees of what stands right within a part.
func nodes(p part) []api.Node {
	parts := p.within()
	l := make([]api.Node, len(parts))
	for i, q := range parts {
		l[i] = node(q)
	}
	return l
}
