package compare

import (
	"slices"

	"dredge/api"
)

// What is asked of a line where a spot is passed.
const (
	passes   = iota // nothing
	reads           // a character of a position
	atBegin         // nothing has been read
	atEnd           // nothing is read behind
	hasMatch        // nothing: here all has been matched
)

// spot is a place of a tree that is written out, and the spots to which it leads.
type spot struct {
	asks     int
	position int
	next     []int
}

// written is a tree, written out. It is written from its end on: so the spots to which one leads are there ahead of it.
type written struct {
	spots     []spot
	begin     int
	positions [][]api.Range // what each one may read
	behind    []int         // the spot behind each one
}

func writtenOut(n api.Node) *written {
	w := &written{}
	w.begin = w.put(n, w.add(spot{asks: hasMatch}))
	return w
}

func (w *written) add(s spot) int {
	w.spots = append(w.spots, s)
	return len(w.spots) - 1
}

// put writes a node ahead of a spot, and tells where it begins.
func (w *written) put(n api.Node, next int) int {
	switch n.Kind {
	case api.NSet:
		return w.position(n.Ranges, next)
	case api.NBegin:
		return w.add(spot{asks: atBegin, next: []int{next}})
	case api.NEnd:
		return w.add(spot{asks: atEnd, next: []int{next}})
	case api.NCat:
		for _, kid := range slices.Backward(n.Kids) {
			next = w.put(kid, next)
		}
	case api.NAlt:
		var begins []int
		for _, kid := range n.Kids {
			begins = append(begins, w.put(kid, next))
		}
		return w.add(spot{next: begins})
	case api.NGroup:
		return w.put(n.Kids[0], next)
	case api.NRep:
		return w.turns(n, next)
	}
	return next
}

func (w *written) position(class []api.Range, next int) int {
	w.positions = append(w.positions, class)
	w.behind = append(w.behind, next)
	return w.add(spot{asks: reads, position: len(w.positions) - 1})
}

// turns writes an NRep's Kid out, so many times. Which of its turns have bytes is not asked: one that has none leads where it began.
func (w *written) turns(n api.Node, next int) int {
	kid, behind := n.Kids[0], next
	if n.Max == api.Infinite {
		next = w.add(spot{next: []int{behind}})
		w.spots[next].next = append(w.spots[next].next, w.put(kid, next))
	} else {
		for range n.Max - n.Min {
			next = w.add(spot{next: []int{w.put(kid, next), behind}})
		}
	}
	for range n.Min {
		next = w.put(kid, next)
	}
	return next
}
