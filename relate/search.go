package relate

import (
	"slices"
	"strings"

	"dredge/api"
	"dredge/measure"
)

// part is what is known of a group: its part of the line; only where it began, while it is open; or nothing. Its places are small numbers, as the line is short: many of them may have to be kept.
type part struct{ from, to int8 }

// notYet stands where a part has no beginning, or no end.
const notYet = -1

// state is a place and an environment. Of groups that nothing refers to the environment has nothing: so there are few of them.
type state struct {
	place int8
	// fresh: a turn that must have bytes began, and has none yet. It can't end so, and with its first byte those around it have one, too: so one mark is enough for all of them.
	fresh bool
	parts [api.MaxRefs]part
}

// spot is a node, of the tree written out, and the state in which it was come to.
type spot struct {
	node int32
	state
}

// way goes on from a state up to the end of the tree; it tells whether what is looked for was come to there.
type way func(at state) bool

// search goes through all ways through a tree. A way is never gone on twice from the same spot: what can be come to from there has been come to.
type search struct {
	text
	used  []int
	found map[spot]struct{}
	nodes int32
	trail []step
	begin way
	end   way
}

func newSearch(n api.Node, t text, mode api.Mode) *search {
	s := &search{text: t, used: measure.Used(n, mode), found: map[spot]struct{}{}}
	s.begin = s.node(n, func(at state) bool { return s.end(at) })
	return s
}

// from goes through the ways from a place and the empty environment.
func (s *search) from(at int, end way) bool {
	first := state{place: int8(at)}
	for i := range first.parts {
		first.parts[i] = part{notYet, notYet}
	}
	s.end = end
	return s.begin(first)
}

// ends are where the ways from a place end, rising.
func (s *search) ends(at int) []int {
	var l []int
	s.from(at, func(at state) bool {
		l = append(l, int(at.place))
		return false
	})
	slices.Sort(l)
	return slices.Compact(l)
}

// prove is the proof of the first way that leads from a part's one place to its other one.
func (s *search) prove(p api.Span) (api.Proof, bool) {
	if !s.from(p.From, func(at state) bool { return int(at.place) == p.To }) {
		return api.Proof{}, false
	}
	return proofOf(s.trail), true
}

// node is the way through a node, and on by the next one. It is made when it is first come to: of a tree written out most nodes may never be.
func (s *search) node(n api.Node, next way) way {
	var through way
	return s.once(func(at state) bool {
		if through == nil {
			through = s.through(n, s.closed(next))
		}
		return through(at)
	})
}

func (s *search) through(n api.Node, next way) way {
	switch n.Kind {
	case api.NCat:
		return s.opened(0, s.row(n.Kids, next))
	case api.NAlt:
		return s.choice(n.Kids, next)
	case api.NGroup:
		return s.opened(0, s.group(n, next))
	case api.NRep:
		return s.opened(0, s.turns(n, next))
	}
	return s.opened(0, s.leafWay(n, next))
}

// once is a way that is gone once from each state.
func (s *search) once(next way) way {
	node := s.nodes
	s.nodes++
	return func(at state) bool {
		here := spot{node, at}
		if _, is := s.found[here]; is {
			return false
		}
		s.found[here] = struct{}{}
		return next(at)
	}
}

func (s *search) leafWay(n api.Node, next way) way {
	return func(at state) bool {
		to, is := s.leaf(n, int(at.place), func(number int) (api.Span, bool) {
			p := at.parts[slices.Index(s.used, number)]
			return api.Span{From: int(p.from), To: int(p.to)}, p.to != notYet
		})
		if !is {
			return false
		}
		at.fresh = at.fresh && to == int(at.place)
		at.place = int8(to)
		return next(at)
	}
}

func (s *search) row(kids []api.Node, next way) way {
	for _, kid := range slices.Backward(kids) {
		next = s.node(kid, next)
	}
	return next
}

func (s *search) choice(kids []api.Node, next way) way {
	var ways []way
	for i, kid := range kids {
		ways = append(ways, s.opened(i, s.node(kid, next)))
	}
	return func(at state) bool {
		return slices.ContainsFunc(ways, func(w way) bool { return w(at) })
	}
}

// group is the way through a group's Kid. While it is open its part of an earlier turn can be forgotten: nothing within a group refers to it.
func (s *search) group(n api.Node, next way) way {
	slot := slices.Index(s.used, n.N)
	if slot < 0 {
		return s.node(n.Kids[0], next)
	}
	kid := s.node(n.Kids[0], func(at state) bool {
		at.parts[slot] = s.kept(int(at.parts[slot].from), int(at.place))
		return next(at)
	})
	return func(at state) bool {
		at.parts[slot] = part{at.place, notYet}
		return kid(at)
	}
}

// kept is what an environment keeps of a part: the first one alike it, as a reference asks for its bytes alone; nothing, if these do not come again: no reference could match them.
func (s *search) kept(from, to int) part {
	bytes := s.folded[from:to]
	if !strings.Contains(s.folded[to:], bytes) {
		return part{notYet, notYet}
	}
	first := strings.Index(s.folded, bytes)
	return part{int8(first), int8(first + len(bytes))}
}

// turns is the way through an NRep: its first Min turns, and others that have bytes.
func (s *search) turns(n api.Node, next way) way {
	kid, more := n.Kids[0], s.loop
	// Each turn that is no more among the first ones has a byte of its own: so a bound that is not below the line's length is none.
	if n.Max != api.Infinite && n.Max-n.Min < len(s.line) {
		more = func(kid api.Node, next way) way { return s.upTo(n.Max-n.Min, kid, next) }
	}
	w := more(kid, next)
	for range n.Min {
		w = s.node(kid, w)
	}
	return w
}

func (s *search) loop(kid api.Node, next way) way {
	var again way
	turn := s.turn(kid, func(at state) bool { return again(at) })
	again = s.once(func(at state) bool { return turn(at) || next(at) })
	return again
}

func (s *search) upTo(most int, kid api.Node, next way) way {
	w := next
	for range most {
		turn := s.turn(kid, w)
		w = func(at state) bool { return turn(at) || next(at) }
	}
	return w
}

// turn is a turn that must have bytes.
func (s *search) turn(kid api.Node, next way) way {
	body := s.node(kid, func(at state) bool { return !at.fresh && next(at) })
	return func(at state) bool {
		at.fresh = true
		return body(at)
	}
}
