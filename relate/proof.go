package relate

import "dredge/api"

// step is a bracket of a trail: a node, of which Kid (of an NAlt), is opened or closed at a place.
type step struct {
	opens        bool
	place, which int
}

// opened notes on the trail that a node begins, closed that it ends; if the way leads nowhere, the note is taken back.
func (s *search) opened(which int, next way) way {
	return func(at state) bool { return s.noted(step{true, int(at.place), which}, at, next) }
}

func (s *search) closed(next way) way {
	return func(at state) bool { return s.noted(step{false, int(at.place), 0}, at, next) }
}

func (s *search) noted(note step, at state, next way) bool {
	s.trail = append(s.trail, note)
	if next(at) {
		return true
	}
	s.trail = s.trail[:len(s.trail)-1]
	return false
}

// proofOf is the proof that a trail's brackets are.
func proofOf(trail []step) api.Proof {
	at := 0
	var read func() api.Proof
	read = func() api.Proof {
		p := api.Proof{From: trail[at].place, Which: trail[at].which}
		for at++; trail[at].opens; {
			p.Kids = append(p.Kids, read())
		}
		p.To = trail[at].place
		at++
		return p
	}
	return read()
}

// checker goes through a tree by a proof. There is one way alone: so one environment is enough, that is written into.
type checker struct {
	text
	parts map[int]api.Span
	left  int // proofs that may still come
}

// holds tells whether a proof is one that a node leads from a place to the proof's To.
func (c *checker) holds(n api.Node, p api.Proof, at int) bool {
	if c.left == 0 || p.From != at {
		return false
	}
	c.left--
	switch n.Kind {
	case api.NCat:
		return p.Which == 0 && len(p.Kids) == len(n.Kids) && c.row(n.Kids, p)
	case api.NAlt:
		return p.Which >= 0 && p.Which < len(n.Kids) && len(p.Kids) == 1 && c.row(n.Kids[p.Which:], p)
	case api.NGroup:
		is := p.Which == 0 && len(p.Kids) == 1 && c.row(n.Kids, p)
		c.parts[n.N] = api.Span{From: p.From, To: p.To}
		return is
	case api.NRep:
		return p.Which == 0 && c.turns(n, p)
	}
	to, is := c.leaf(n, at, func(number int) (api.Span, bool) {
		part, is := c.parts[number]
		return part, is
	})
	return is && p.Which == 0 && len(p.Kids) == 0 && p.To == to
}

// row tells whether a proof's Kids are proofs of as many nodes, one behind the other, up to its To.
func (c *checker) row(nodes []api.Node, p api.Proof) bool {
	at := p.From
	for i, kid := range p.Kids {
		if !c.holds(nodes[i], kid, at) {
			return false
		}
		at = kid.To
	}
	return p.To == at
}

// turns tells whether a proof's Kids are turns of an NRep.
func (c *checker) turns(n api.Node, p api.Proof) bool {
	if len(p.Kids) < n.Min || n.Max != api.Infinite && len(p.Kids) > n.Max {
		return false
	}
	at := p.From
	for i, turn := range p.Kids {
		if !c.holds(n.Kids[0], turn, at) || i >= n.Min && turn.To == at {
			return false
		}
		at = turn.To
	}
	return p.To == at
}
