package measure

import "dredge/api"

const (
	lastShort = 127 // the last character of one byte
	wideRange = 16  // the size of a range that goes beyond it
)

// size is a node's size. What is too great stays so in all that is around it.
func size(s spot[int]) int {
	all := 1
	switch s.node.Kind {
	case api.NSet:
		all = setSize(s.node.Ranges, s.mode)
	case api.NCat, api.NAlt:
		all = len(s.kids)
		for _, kid := range s.kids {
			all += kid
		}
	case api.NGroup:
		all = s.kids[0] + 2
	case api.NRep:
		all = (s.kids[0] + 2) * turns(s.node)
	}
	return min(all, api.MaxSize+1)
}

func setSize(l []api.Range, mode api.Mode) int {
	if !mode.Chars {
		return 1
	}
	wide, narrow := 0, 0
	for _, r := range l {
		if r.Hi > lastShort {
			wide += wideRange
		} else {
			narrow = 1
		}
	}
	return max(wide+narrow, 1)
}

// turns is how often an NRep's Kid is written out.
func turns(n api.Node) int {
	if n.Max == api.Infinite {
		return n.Min + 1
	}
	return max(n.Max, 1)
}
