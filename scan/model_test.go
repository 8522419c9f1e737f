package scan_test

import (
	"slices"
	"unicode/utf8"

	"dredge/api"
)

// reading is a line as a mode reads it.
type reading struct {
	line  string
	mode  api.Mode
	place []bool // of each number from 0 to the line's length: is it one of the line's places?
}

func readingOf(line string, mode api.Mode) reading {
	r := reading{line, mode, make([]bool, len(line)+1)}
	at := 0
	for at < len(line) {
		r.place[at] = true
		_, bytes := r.unit(at)
		at += bytes
	}
	r.place[at] = true
	return r
}

// unit is the character at a place below the line's length (-1: none), and how many bytes it has.
func (r reading) unit(at int) (int, int) {
	if !r.mode.Chars {
		return int(r.line[at]), 1
	}
	c, bytes := utf8.DecodeRuneInString(r.line[at:])
	if c == utf8.RuneError && bytes == 1 {
		return -1, 1
	}
	return int(c), bytes
}

// isPlace tells whether a number is one of the line's places.
func (r reading) isPlace(at int) bool {
	return at >= 0 && at <= len(r.line) && r.place[at]
}

// find is chapter 00's FIND of a tree without backreferences.
func (r reading) find(n api.Node, from int) (api.Span, bool) {
	for at := from; at <= len(r.line); at++ {
		if !r.isPlace(at) {
			continue
		}
		if ends := r.ends(n, []int{at}); len(ends) > 0 {
			return api.Span{From: at, To: slices.Max(ends)}, true
		}
	}
	return api.Span{}, false
}

// ends is chapter 00's relation, from several places at once. (Environments are asked by backreferences alone.)
func (r reading) ends(n api.Node, from []int) []int {
	switch n.Kind {
	case api.NSet:
		return r.behindUnits(n.Ranges, from)
	case api.NBegin:
		return only(from, 0)
	case api.NEnd:
		return only(from, len(r.line))
	case api.NCat:
		for _, kid := range n.Kids {
			from = r.ends(kid, from)
		}
	case api.NAlt:
		var l []int
		for _, kid := range n.Kids {
			l = joined(l, r.ends(kid, from))
		}
		return l
	case api.NGroup:
		return r.ends(n.Kids[0], from)
	case api.NRep:
		return r.turns(n, from)
	}
	return from
}

func (r reading) behindUnits(class []api.Range, from []int) []int {
	var l []int
	for _, at := range from {
		if at == len(r.line) {
			continue
		}
		c, bytes := r.unit(at)
		if slices.ContainsFunc(class, func(x api.Range) bool { return x.Lo <= c && c <= x.Hi }) {
			l = joined(l, []int{at + bytes})
		}
	}
	return l
}

// turns goes on, behind the first Min ones, until no turn comes to a new place: one without bytes comes to none.
func (r reading) turns(n api.Node, from []int) []int {
	for range n.Min {
		from = r.ends(n.Kids[0], from)
	}
	all := from
	for k := n.Min; n.Max == api.Infinite || k < n.Max; k++ {
		from = r.ends(n.Kids[0], from)
		known := len(all)
		if all = joined(all, from); len(all) == known {
			break
		}
	}
	return all
}

func only(l []int, number int) []int {
	if slices.Contains(l, number) {
		return []int{number}
	}
	return nil
}

// joined is the numbers of both lists, rising, each once.
func joined(a, b []int) []int {
	l := slices.Concat(a, b)
	slices.Sort(l)
	return slices.Compact(l)
}
