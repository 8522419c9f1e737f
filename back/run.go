package back

import "dredge/pile"

// run is one program played in one line.
//
// All that was looked at from beginnings that are over has failed, so it need not be looked at from later ones. What every beginning may come to, as long as groups and counters are as they were at first, lasts: that is a few configurations a place. The others may be new ones at each beginning, so they are given up when they are too many.
type run struct {
	bare
	state
	owner   *Back
	line    string
	todo    *pile.Pile[task]
	key     key
	lasting memory
	passing memory
	best    int // the greatest place up to which there is a match
}

func newRun(b *Back, line string) *run {
	return &run{bare: b.program, state: newState(b.program), owner: b, line: line, todo: pile.New[task]()}
}

// longest is the greatest place up to which there is a match from a place on; none, if there is no match. (Behind a match it is not asked again: not all has failed then.)
func (r *run) longest(at int) int {
	r.best = none
	if r.passing.isMuch() {
		r.passing = memory{}
	}
	r.Back(0)
	r.wait(spot{0, at})
	for r.best < len(r.line) {
		t, there := r.todo.Pop()
		if !there {
			break
		}
		r.Back(t.mark())
		switch t := t.(type) {
		case look:
			r.follow(t.spot)
		case leave:
			r.memory().drop(r.keyOf(t.spot))
		}
	}
	return r.best
}

// wait lays a configuration on the pile.
func (r *run) wait(s spot) { r.todo.Push(look{s, marked(r.Mark())}) }

// follow looks at a configuration and at those that come next, till there is none, or it was looked at already.
func (r *run) follow(s spot) {
	for on := true; on && r.enter(s); {
		s, on = r.next(s)
	}
}

// enter tells whether a configuration is to be looked at. A plain machine knows those alone that are on its way here: round which it would go for ever.
func (r *run) enter(s spot) bool {
	r.owner.steps++
	if !r.meets[s.inst] {
		return true
	}
	if !r.memory().put(r.keyOf(s)) {
		return false
	}
	if r.owner.plain {
		r.todo.Push(leave{s, marked(r.Mark())})
	} else {
		r.owner.kept = max(r.owner.kept, r.lasting.count+r.passing.count)
	}
	return true
}

// memory is the one in which a configuration stands that has these groups and counters.
func (r *run) memory() *memory {
	if r.isFresh() {
		return &r.lasting
	}
	return &r.passing
}

// keyOf is what tells a configuration from all that go on otherwise. Of the place where a counter's last turn began it is enough whether it is this one.
//
// At most 92 digits are instructions and places, two of which at least come into one number; at most 80 are of counters, twelve of which do: a key is far from too wide.
func (r *run) keyOf(s spot) []int {
	k := r.key.emptied()
	k.add(s.inst, len(r.insts))
	k.add(s.place, len(r.line)+1)
	for i := range r.counters {
		k.add(r.cell(i)+1, len(r.line)+2)
	}
	for counter, bound := range r.bounds {
		k.add(r.turns(counter), bound+2)
		here := 0
		if r.turned(counter) == s.place {
			here = 1
		}
		k.add(here, 2)
	}
	r.key = k
	return k.numbers
}
