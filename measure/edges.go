package measure

import (
	"dredge/api"
	"dredge/chars"
	"dredge/sets"
)

// anchors is whether each match begins at a line's beginning, ends at its end.
type anchors struct{ begins, ends bool }

func anchored(s spot[anchors]) anchors {
	var a anchors
	switch s.node.Kind {
	case api.NBegin:
		a.begins = true
	case api.NEnd:
		a.ends = true
	case api.NCat:
		a = anchors{s.kids[0].begins, s.kids[len(s.kids)-1].ends}
	case api.NAlt:
		a = anchors{true, true}
		for _, kid := range s.kids {
			a = anchors{a.begins && kid.begins, a.ends && kid.ends}
		}
	case api.NGroup:
		a = s.kids[0]
	case api.NRep:
		if s.node.Min > 0 {
			a = s.kids[0]
		}
	}
	return a
}

// start is the bytes with which a match may begin, and whether it may have none.
type start struct {
	bytes api.Set
	none  bool
}

func first(s spot[start]) start {
	switch s.node.Kind {
	case api.NSet:
		return start{bytes: firstBytes(s.node.Ranges, s.mode)}
	case api.NCat:
		return firstOfRow(s.kids)
	case api.NAlt:
		var all start
		for _, kid := range s.kids {
			all = start{sets.Or(all.bytes, kid.bytes), all.none || kid.none}
		}
		return all
	case api.NGroup:
		return s.kids[0]
	case api.NBack:
		return s.group(s.node.N)
	case api.NRep:
		if s.node.Max > 0 || s.node.Max == api.Infinite {
			return start{s.kids[0].bytes, s.node.Min == 0 || s.kids[0].none}
		}
	}
	return start{none: true}
}

// firstOfRow is the start of what stands one behind the other: a later one shows where all ahead of it may have no bytes.
func firstOfRow(l []start) start {
	row := start{none: true}
	for _, next := range l {
		row = start{sets.Or(row.bytes, next.bytes), next.none}
		if !next.none {
			break
		}
	}
	return row
}

// firstBytes is the first bytes of a class's characters.
func firstBytes(l []api.Range, mode api.Mode) api.Set {
	if mode.Chars {
		l = leading(l)
	}
	s, _ := sets.From(l)
	return s
}

// leading is the ranges of the first UTF-8 bytes of a class's characters.
func leading(l []api.Range) []api.Range {
	var firsts []api.Range
	for _, r := range l {
		rows, _ := chars.Rows(r.Lo, r.Hi)
		for _, row := range rows {
			firsts = append(firsts, row[0])
		}
	}
	return firsts
}
