package compare_test

import (
	"fmt"
	"slices"

	"dredge/api"
)

// writtenOut is a tree of a tree's nodes in which each NSet that may be there has a number of its own (N). An NRep's Kids are its turns then, so many as there may be (one, if there may be any number of them and none must be).
type writtenOut struct {
	root  api.Node
	count int
}

func written(n api.Node) writtenOut {
	w := writtenOut{}
	w.root = w.of(n)
	return w
}

func (w *writtenOut) of(n api.Node) api.Node {
	kids := n.Kids
	switch {
	case n.Kind == api.NSet:
		n.N = w.count
		w.count++
		return n
	case n.Kind == api.NRep && n.Max == api.Infinite:
		kids = slices.Repeat(n.Kids, n.Min+1)
	case n.Kind == api.NRep:
		kids = slices.Repeat(n.Kids, n.Max)
	}
	n.Kids = nil
	for _, kid := range kids {
		n.Kids = append(n.Kids, w.of(kid))
	}
	return n
}

// spot is where what is matched goes up to, and whether an NEnd has been matched.
type spot struct {
	at    int
	ended bool
}

// play is a line that is read by a tree that is written out: the positions that read its last character.
type play struct {
	units []int
	last  map[int]int
}

func (p *play) goOn(n api.Node, from []spot) []spot {
	switch n.Kind {
	case api.NSet:
		return p.read(n, from)
	case api.NBegin:
		return slices.DeleteFunc(slices.Clone(from), func(s spot) bool { return s.at > 0 })
	case api.NEnd:
		var l []spot
		for _, s := range from {
			l = added(l, spot{s.at, true})
		}
		return l
	case api.NCat:
		for _, kid := range n.Kids {
			from = p.goOn(kid, from)
		}
		return from
	case api.NAlt:
		var l []spot
		for _, kid := range n.Kids {
			l = added(l, p.goOn(kid, from)...)
		}
		return l
	case api.NGroup:
		return p.goOn(n.Kids[0], from)
	case api.NRep:
		return p.turns(n, from)
	}
	return from
}

func (p *play) read(n api.Node, from []spot) []spot {
	var l []spot
	for _, s := range from {
		if s.ended || s.at == len(p.units) || !has(n.Ranges, p.units[s.at]) {
			continue
		}
		if s.at == len(p.units)-1 {
			p.last[n.N]++
		}
		l = added(l, spot{s.at + 1, false})
	}
	return l
}

func (p *play) turns(n api.Node, from []spot) []spot {
	var ends []spot
	for turn, kid := range n.Kids {
		if turn >= n.Min {
			ends = added(ends, from...)
		}
		from = p.goOn(kid, from)
	}
	ends = added(ends, from...)
	if n.Max != api.Infinite {
		return ends
	}
	for known := -1; known < len(ends); {
		known = len(ends)
		ends = added(ends, p.goOn(n.Kids[n.Min], ends)...)
	}
	return ends
}

func added(l []spot, more ...spot) []spot {
	l = slices.Clone(l)
	for _, s := range more {
		if !slices.Contains(l, s) {
			l = append(l, s)
		}
	}
	return l
}

// setOf is a line's set, as a text.
func (w writtenOut) setOf(r reading) string {
	if len(r.units) == 0 {
		return "of the empty line"
	}
	p := play{units: r.units, last: map[int]int{}}
	p.goOn(w.root, []spot{{}})
	var l []int
	for position := range p.last {
		l = append(l, position)
	}
	slices.Sort(l)
	return fmt.Sprint(l)
}

// allSets is a tree's sets: a line of each, the empty one first, and which sets come of each by a letter.
type allSets struct {
	lines []reading
	moves [][]int
}

// setsOf is all sets of a tree, if there are at most so many of them. What set a line and a letter have hangs on the line's set and on the letter alone.
func setsOf(n api.Node, mode api.Mode, letters []string, most int) (allSets, bool) {
	w := written(n)
	s := allSets{lines: []reading{readingOf("", mode)}}
	known := map[string]int{w.setOf(s.lines[0]): 0}
	for at := 0; at < len(s.lines); at++ {
		var moves []int
		for _, letter := range letters {
			next := readingOf(s.lines[at].line+letter, mode)
			set := w.setOf(next)
			number, is := known[set]
			if !is {
				number = len(s.lines)
				known[set] = number
				s.lines = append(s.lines, next)
			}
			if len(s.lines) > most {
				return allSets{}, false
			}
			moves = append(moves, number)
		}
		s.moves = append(s.moves, moves)
	}
	return s, true
}

// number is a language's number: classes of sets, told apart until none is told apart any more.
func (s allSets) number(n api.Node) int {
	class, count := make([]int, len(s.lines)), 0
	for {
		numbers := map[string]int{}
		next := make([]int, len(class))
		for state, r := range s.lines {
			row := fmt.Sprint(r.isIn(n))
			for _, to := range s.moves[state] {
				row += fmt.Sprint(" ", class[to])
			}
			if _, is := numbers[row]; !is {
				numbers[row] = len(numbers)
			}
			next[state] = numbers[row]
		}
		if len(numbers) == count {
			return count
		}
		class, count = next, len(numbers)
	}
}

// rows is how many classes some lines have at least: as many as some other ones tell apart, put behind them.
func rows(n api.Node, mode api.Mode, lines, behind []string) int {
	told := map[string]int{}
	for _, line := range lines {
		row := ""
		for _, more := range behind {
			row += fmt.Sprint(readingOf(line+more, mode).isIn(n))[:1]
		}
		told[row]++
	}
	return len(told)
}
