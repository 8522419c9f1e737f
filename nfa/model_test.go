package nfa_test

import (
	"testing"

	"dredge/api"
)

// spot is a configuration of a free program, as far as it tells what is matched.
type spot struct{ inst, place int }

// model plays a program from one place alone, by chapter 14's table: from each configuration to those that it leads to.
type model struct {
	insts []api.Inst
	line  string
	seen  map[spot]bool
	best  int // the greatest place of an OpMatch; -1, if there is none
}

// longest is the greatest place up to which a program matches a line from a place on; -1, if there is none.
func longest(p api.Program, line string, at int) int {
	m := model{p.Insts, line, map[spot]bool{}, -1}
	m.come(spot{0, at})
	return m.best
}

func (m *model) come(s spot) {
	if m.seen[s] {
		return
	}
	m.seen[s] = true
	in, on := m.insts[s.inst], spot{s.inst + 1, s.place}
	switch in.Op {
	case api.OpByte:
		if s.place < len(m.line) && in.Set[m.line[s.place]/64]>>(m.line[s.place]%64)&1 == 1 {
			m.come(spot{s.inst + 1, s.place + 1})
		}
	case api.OpSplit:
		m.come(spot{in.X, s.place})
		m.come(spot{in.Y, s.place})
	case api.OpJump:
		m.come(spot{in.X, s.place})
	case api.OpBegin:
		if s.place == 0 {
			m.come(on)
		}
	case api.OpEnd:
		if s.place == len(m.line) {
			m.come(on)
		}
	case api.OpOpen, api.OpClose:
		m.come(on)
	case api.OpMatch:
		m.best = max(m.best, s.place)
	}
}

// holds asks both calls at all places of a line, and tells what is otherwise than in the model; it tells how many matches there were.
func holds(t *testing.T, p api.Program, line string) int {
	t.Helper()
	matches := 0
	part := api.Span{From: -1}
	// From behind: what is found from a place on is what begins there, or what is found from the next one on.
	for at := len(line); at >= 0; at-- {
		if to := longest(p, line, at); to >= 0 {
			matches++
			part = api.Span{From: at, To: to}
			reaches(t, p, line, at, to)
		} else {
			reachesNone(t, p, line, at)
		}
		if part.From >= 0 {
			finds(t, p, line, at, part)
		} else {
			findsNone(t, p, line, at)
		}
	}
	return matches
}
