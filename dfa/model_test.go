package dfa_test

import (
	"slices"
	"testing"

	"dredge/api"
)

// spot is a configuration of a free program, as far as it tells what is matched.
type spot struct{ inst, place int }

// model plays a program from one place alone, by chapter 14's table: from each configuration to those that it leads to.
type model struct {
	insts []api.Inst
	line  string
	seen  map[spot]bool
	ends  []int
}

// endsOf is the places up to which a program matches a line from a place on, rising.
func endsOf(p api.Program, line string, at int) []int {
	m := model{p.Insts, line, map[spot]bool{}, nil}
	m.come(spot{0, at})
	slices.Sort(m.ends)
	return slices.Compact(m.ends)
}

func (m *model) come(s spot) {
	if m.seen[s] {
		return
	}
	m.seen[s] = true
	in, on := m.insts[s.inst], spot{s.inst + 1, s.place}
	switch in.Op {
	case api.OpByte:
		if s.place < len(m.line) && in.Set[m.line[s.place]/64]>>(m.line[s.place]%64)&1 == 1 {
			m.come(spot{s.inst + 1, s.place + 1})
		}
	case api.OpSplit:
		m.come(spot{in.X, s.place})
		m.come(spot{in.Y, s.place})
	case api.OpJump:
		m.come(spot{in.X, s.place})
	case api.OpBegin:
		if s.place == 0 {
			m.come(on)
		}
	case api.OpEnd:
		if s.place == len(m.line) {
			m.come(on)
		}
	case api.OpOpen, api.OpClose:
		m.come(on)
	case api.OpMatch:
		m.ends = append(m.ends, s.place)
	}
}

// rooms is those in which programs are held against the model: the least ones, in which states are given up all the time, one in which they are now and then, and one in which they are not.
func rooms() []int { return []int{2, 3, 5, 1000} }

// holds asks all calls at all places of a line, at each room, and tells what is otherwise than in the model; it tells how many ends there were.
func holds(t *testing.T, p api.Program, line string) int {
	t.Helper()
	automata := make([]asked, 0, len(rooms()))
	for _, room := range rooms() {
		automata = append(automata, ask(t, p, room))
	}
	return holdsAt(automata, line)
}

// holdsAt asks automata of one program that may keep something.
func holdsAt(automata []asked, line string) int {
	var all []int
	// From behind: the ends from a place on are those of what begins there, and those from the next one on.
	for at := len(line); at >= 0; at-- {
		here := endsOf(automata[0].p, line, at)
		all = append(all, here...)
		slices.Sort(all)
		all = slices.Compact(all)
		last := -1
		if len(here) > 0 {
			last = here[len(here)-1]
		}
		for _, a := range automata {
			a.t.Helper()
			a.longest(line, at, last)
			a.ends(line, at, all...)
		}
	}
	return len(all)
}
