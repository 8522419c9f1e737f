package dfa

import (
	"slices"

	"dredge/api"
	"dredge/marks"
	"dredge/sets"
)

// way is how a walk begins: does the program begin anew at each place behind, and is this the line's first place?
type way struct{ anew, first bool }

// maker makes a program's states, one at a time.
type maker struct {
	insts  []api.Inst
	come   *marks.Marks // the instructions that can be come to at the state's place
	reads  []int        // those of them that read a byte
	ends   []int        // those to which an OpEnd leads, if the place is the line's length
	looked int          // how often an instruction was looked at
}

func newMaker(insts []api.Inst) *maker {
	// A right program has fewer instructions than a set of marks has room for: there is no error.
	come, _ := marks.New(len(insts))
	return &maker{insts: insts, come: come}
}

// first is the state in which nothing has been read.
func (m *maker) first(w way) state {
	m.come.Clear()
	m.come.Put(0)
	return m.made(w)
}

// behind is the state behind a byte.
func (m *maker) behind(s state, b byte) state {
	m.come.Clear()
	for at := range s.reads() {
		m.looked++
		if sets.Has(m.insts[at].Set, int(b)) {
			m.come.Put(at + 1)
		}
	}
	if s.anew() {
		m.come.Put(0)
	}
	return m.made(way{anew: s.anew()})
}

// made is the state of what has been come to, and of all to which that leads without a byte.
func (m *maker) made(w way) state {
	m.reads, m.ends = m.reads[:0], m.ends[:0]
	flags := byte(0)
	if w.anew {
		flags |= isAnew
	}
	if m.follow(0, w.first, false) {
		flags |= isMatch
	}
	// What an OpEnd leads to comes in behind all others: so those are not looked at again.
	inside := m.come.Len()
	for _, at := range m.ends {
		m.come.Put(at)
	}
	if m.follow(inside, w.first, true) {
		flags |= isLast
	}
	slices.Sort(m.reads)
	return stateOf(flags, m.reads)
}

// follow looks at what has been come to, from the k-th on, and at all to which that leads without a byte, at a place that is the line's first or last one, or is not. It tells whether there is a match among them.
func (m *maker) follow(k int, first, last bool) bool {
	match := false
	// Those that come in stand behind those that are looked at: so the set is the list of what is left to do, too.
	for ; k < m.come.Len(); k++ {
		at, _ := m.come.At(k)
		m.looked++
		in := &m.insts[at]
		switch in.Op {
		case api.OpByte:
			// Behind the line's last place there is nothing to read.
			if !last {
				m.reads = append(m.reads, at)
			}
		case api.OpSplit:
			m.come.Put(in.X)
			m.come.Put(in.Y)
		case api.OpJump:
			m.come.Put(in.X)
		case api.OpOpen, api.OpClose:
			m.come.Put(at + 1)
		case api.OpBegin:
			if first {
				m.come.Put(at + 1)
			}
		case api.OpEnd:
			if last {
				m.come.Put(at + 1)
			} else {
				m.ends = append(m.ends, at+1)
			}
		case api.OpMatch:
			match = true
		}
	}
	return match
}
