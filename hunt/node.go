package hunt

import (
	"iter"

	"dredge/api"
	"dredge/sets"
)

// The numbers of words are put into sets of bytes: a constant that would be no byte is refused here.
const _ = byte(api.MaxWords - 1)

// halfBits is how many bits half a byte has.
const halfBits = 4

// fan is where one goes on from a node: the row of a byte's upper half, and in that the node of its lower half. Nearly all nodes lead to one other node alone: an array of all bytes for each would be far too large.
type fan [1 << halfBits]*row

type row [1 << halfBits]*node

// node is the beginning of a word, or of several.
type node struct {
	kids  fan
	depth int     // bytes of the text
	words api.Set // the words that are the text
	back  *node   // of the longest end of the text, but for itself, that is a beginning; the root has none
	whole *node   // of the longest end of the text that is a word, if there is one: the text itself, too
}

// kid is where a byte leads, if it leads on.
func (n *node) kid(b byte) *node {
	if r := n.kids[b>>halfBits]; r != nil {
		return r[b%(1<<halfBits)]
	}
	return nil
}

// grown is where a byte leads; it grows, if there is nothing yet.
func (n *node) grown(b byte) *node {
	r := &n.kids[b>>halfBits]
	if *r == nil {
		*r = &row{}
	}
	kid := &(*r)[b%(1<<halfBits)]
	if *kid == nil {
		*kid = &node{depth: n.depth + 1}
	}
	return *kid
}

// put says that a word is the node's text.
func (n *node) put(word int) { n.words = sets.With(n.words, word) }

// least is the least number of the words that are the node's text.
func (n *node) least() int {
	word, _ := sets.Next(n.words, 0)
	return word
}

// all goes over the bytes that lead on, rising, and where they lead.
func (n *node) all() iter.Seq2[byte, *node] {
	return func(yield func(byte, *node) bool) {
		for upper, r := range n.kids {
			if r == nil {
				continue
			}
			for lower, kid := range r {
				if kid != nil && !yield(byte(upper<<halfBits|lower), kid) {
					return
				}
			}
		}
	}
}

// on is where one comes to from a node by a byte, and how often one goes back for that.
func (n *node) on(b byte) (*node, int) {
	for back := 0; ; back++ {
		if kid := n.kid(b); kid != nil {
			return kid, back
		}
		if n.back == nil {
			return n, back
		}
		n = n.back
	}
}

// linkKids finds of a node's kids where they go back, and the longest word that ends with them; of all nodes that are no deeper than the node this is known.
func (n *node) linkKids() {
	for b, kid := range n.all() {
		if n.back == nil {
			kid.back = n
		} else {
			kid.back, _ = n.back.on(b)
		}
		kid.whole = kid.back.whole
		if kid.words != (api.Set{}) {
			kid.whole = kid
		}
	}
}

// byDepth goes over the nodes of a tree, each behind all those that are less deep.
func byDepth(root *node) iter.Seq[*node] {
	return func(yield func(*node) bool) {
		for level := []*node{root}; len(level) > 0; {
			var deeper []*node
			for _, n := range level {
				if !yield(n) {
					return
				}
				for _, kid := range n.all() {
					deeper = append(deeper, kid)
				}
			}
			level = deeper
		}
	}
}
