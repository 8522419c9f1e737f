package compile

import (
	"slices"

	"dredge/api"
)

// turns writes turns out. Those behind the first Min ones may have no bytes here: such a turn leads where none would.
func (w *writer) turns(n api.Node) {
	kid := n.Kids[0]
	write := w.forms[kid.Kind]
	w.loops++
	switch {
	case n.Max != api.Infinite:
		w.again(write, kid, n.Min)
		w.atMost(write, kid, n.Max-n.Min)
	case n.Min == 0:
		w.anyTimes(write, kid)
	default:
		w.again(write, kid, n.Min-1)
		w.onceOrMore(write, kid)
	}
	w.loops--
}

// again writes a node out so many times.
func (w *writer) again(write form, n api.Node, times int) {
	for range times {
		write(w, n)
	}
}

// atMost writes a node out so many times; ahead of each one may leave.
func (w *writer) atMost(write form, n api.Node, times int) {
	var splits []int
	for range times {
		splits = append(splits, w.put(api.Inst{Op: api.OpSplit}))
		write(w, n)
	}
	for _, split := range splits {
		w.lead(split, split+1, w.next())
	}
}

func (w *writer) anyTimes(write form, n api.Node) {
	split := w.put(api.Inst{Op: api.OpSplit})
	write(w, n)
	w.put(api.Inst{Op: api.OpJump, X: split})
	w.lead(split, split+1, w.next())
}

func (w *writer) onceOrMore(write form, n api.Node) {
	first := w.next()
	write(w, n)
	split := w.put(api.Inst{Op: api.OpSplit})
	w.lead(split, first, w.next())
}

// countedTurns counts turns, unless there is nothing to be counted.
func (w *writer) countedTurns(n api.Node) {
	if w.uncounted(n) {
		w.turns(n)
		return
	}
	number := w.counting
	w.loops++
	w.counting++
	w.counters = max(w.counters, w.counting)
	turn := w.put(api.Inst{Op: api.OpTurn, N: number, Min: n.Min, Max: n.Max})
	w.write(n.Kids[0])
	w.put(api.Inst{Op: api.OpJump, X: turn})
	w.lead(turn, turn+1, w.next())
	// A counter has turns within its own loop alone: so it has none where one begins, and what comes behind does not hang on how many there were.
	w.put(api.Inst{Op: api.OpZero, N: number})
	w.counting--
	w.loops--
}

// uncounted tells whether turns written out are one at most, or one that is gone round, and none of them matters that has no bytes where it must have some.
func (w *writer) uncounted(n api.Node) bool {
	if n.Min > 1 || n.Max > 1 {
		return false
	}
	return n.Min == n.Max || hasBytes(n.Kids[0]) || !w.keeps(n.Kids[0])
}

// hasBytes tells whether a node matches no part without bytes, by its form. (An NBack may: so may its group.)
func hasBytes(n api.Node) bool {
	switch n.Kind {
	case api.NSet:
		return true
	case api.NCat:
		return slices.ContainsFunc(n.Kids, hasBytes)
	case api.NAlt:
		return !slices.ContainsFunc(n.Kids, mayHaveNone)
	case api.NGroup:
		return hasBytes(n.Kids[0])
	case api.NRep:
		return n.Min > 0 && hasBytes(n.Kids[0])
	}
	return false
}

func mayHaveNone(n api.Node) bool {
	return !hasBytes(n)
}

// keeps tells whether there is a group in a node that is referred to: then a turn changes more than the place.
func (w *writer) keeps(n api.Node) bool {
	if n.Kind == api.NGroup && slices.Contains(w.refs, n.N) {
		return true
	}
	return slices.ContainsFunc(n.Kids, w.keeps)
}
