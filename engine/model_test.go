package engine_test

import (
	"slices"
	"unicode/utf8"

	"dredge/api"
)

// reading is a line as a mode reads it.
type reading struct {
	line   string
	mode   api.Mode
	places []int
}

func readingOf(line string, mode api.Mode) reading {
	r := reading{line, mode, []int{0}}
	for at := 0; at < len(line); {
		_, bytes := r.unit(at)
		at += bytes
		r.places = append(r.places, at)
	}
	return r
}

// unit is the character at a place below the line's length (-1: none), and how many bytes it has.
func (r reading) unit(at int) (int, int) {
	if !r.mode.Chars {
		return int(r.line[at]), 1
	}
	c, bytes := utf8.DecodeRuneInString(r.line[at:])
	if c == utf8.RuneError && bytes == 1 {
		return -1, 1
	}
	return int(c), bytes
}

func (r reading) isPlace(at int) bool { return slices.Contains(r.places, at) }

// way is an end of chapter 00's relation: a place, and an environment, whose parts stand by the groups' numbers, one further on; what is not set is the part of noughts.
type way struct {
	at    int
	parts [api.MaxGroups + 1]api.Span
}

// ways is several of them, each once.
type ways map[way]bool

// all is chapter 00's ALL of a tree.
func (r reading) all(n api.Node) []api.Span {
	var l []api.Span
	from := 0
	for {
		part, is := r.find(n, from)
		if !is {
			return l
		}
		l = append(l, part)
		if from = part.To; part.From < part.To {
			continue
		}
		i := slices.Index(r.places, part.To) + 1
		if i == len(r.places) {
			return l
		}
		from = r.places[i]
	}
}

// find is chapter 00's FIND of a tree.
func (r reading) find(n api.Node, from int) (api.Span, bool) {
	for _, at := range r.places {
		if at < from {
			continue
		}
		to := -1
		for w := range r.ends(n, ways{way{at: at}: true}) {
			to = max(to, w.at)
		}
		if to >= 0 {
			return api.Span{From: at, To: to}, true
		}
	}
	return api.Span{}, false
}

// ends is chapter 00's M, from several places and environments at once.
func (r reading) ends(n api.Node, from ways) ways {
	switch n.Kind {
	case api.NCat:
		for _, kid := range n.Kids {
			from = r.ends(kid, from)
		}
		return from
	case api.NAlt:
		l := ways{}
		for _, kid := range n.Kids {
			l.join(r.ends(kid, from))
		}
		return l
	case api.NRep:
		return r.turns(n, from)
	case api.NEmpty:
		return from
	}
	l := ways{}
	for w := range from {
		if n.Kind == api.NGroup {
			// One after the other: it is asked where the group began.
			for x := range r.ends(n.Kids[0], ways{w: true}) {
				x.parts[n.N] = api.Span{From: w.at + 1, To: x.at + 1}
				l[x] = true
			}
		} else if bytes := r.bytes(n, w); bytes >= 0 {
			w.at += bytes
			l[w] = true
		}
	}
	return l
}

func (l ways) join(others ways) {
	for w := range others {
		l[w] = true
	}
}

// bytes is how many bytes a node without Kids has; -1, if there is none.
func (r reading) bytes(n api.Node, w way) int {
	switch n.Kind {
	case api.NSet:
		if w.at == len(r.line) {
			return -1
		}
		c, bytes := r.unit(w.at)
		if slices.ContainsFunc(n.Ranges, func(x api.Range) bool { return x.Lo <= c && c <= x.Hi }) {
			return bytes
		}
	case api.NBegin:
		if w.at == 0 {
			return 0
		}
	case api.NEnd:
		if w.at == len(r.line) {
			return 0
		}
	case api.NBack:
		part := w.parts[n.N]
		if part == (api.Span{}) || w.at+part.To-part.From > len(r.line) {
			return -1
		}
		for i := range part.To - part.From {
			if !r.alike(r.line[part.From-1+i], r.line[w.at+i]) {
				return -1
			}
		}
		return part.To - part.From
	}
	return -1
}

func (r reading) alike(a, b byte) bool {
	letter := func(c byte) bool { return c >= 'A' && c <= 'Z' || c >= 'a' && c <= 'z' }
	return a == b || r.mode.Fold && letter(a) && letter(b) && a|32 == b|32
}

// turns goes on, until no turn comes to what is new. (A turn behind the first Min ones goes on in the line: there are not more than it has bytes.)
func (r reading) turns(n api.Node, from ways) ways {
	for range n.Min {
		from = r.ends(n.Kids[0], from)
	}
	all := ways{}
	all.join(from)
	for k := n.Min; (n.Max == api.Infinite || k < n.Max) && len(from) > 0; k++ {
		longer := ways{}
		for w := range from {
			for x := range r.ends(n.Kids[0], ways{w: true}) {
				if x.at > w.at {
					longer[x] = true
				}
			}
		}
		all.join(longer)
		from = longer
	}
	return all
}
