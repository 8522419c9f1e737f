package nfa

import (
	"dredge/api"
	"dredge/marks"
	"dredge/sets"
)

// crowd is the instructions that can be come to at one place. What is come to from several beginnings goes on alike from all of them: so only the first beginning counts, and those that began first were put in first.
type crowd struct {
	*marks.Marks
	begun []int // of each instruction that is there, where the way to it began
}

func newCrowd(room int) crowd {
	// A right program has fewer instructions than a set of marks has room for: there is no error.
	m, _ := marks.New(room)
	return crowd{m, make([]int, room)}
}

// run is one program played once in one line.
type run struct {
	insts     []api.Inst
	line      string
	now, next crowd // those of this place, and of the one behind it
	steps     int
}

func newRun(p api.Program, line string) *run {
	return &run{insts: p.Insts, line: line, now: newCrowd(len(p.Insts)), next: newCrowd(len(p.Insts))}
}

// play is the longest part of those that begin first, at one of the places from first to last.
func (r *run) play(first, last int) (api.Span, bool) {
	part, found := api.Span{}, false
places:
	for place := first; place <= len(r.line); place++ {
		r.now, r.next = r.next, r.now
		r.next.Clear()
		// Who begins here has begun behind all others, so he comes in last; behind a match he would be too late.
		if place <= last && !found {
			r.enter(r.now, 0, place, place)
		}
		if r.now.Len() == 0 {
			break
		}
		r.steps += r.now.Len()
		for k := range r.now.Len() {
			at, _ := r.now.At(k)
			begun := r.now.begun[at]
			switch {
			case found && begun > part.From:
				continue places
			case r.insts[at].Op == api.OpMatch:
				part, found = api.Span{From: begun, To: place}, true
				if place == len(r.line) {
					break places
				}
			case r.takes(at, place):
				r.enter(r.next, at+1, place+1, begun)
			}
		}
	}
	return part, found
}

// takes tells whether an instruction reads the byte at a place.
func (r *run) takes(at, place int) bool {
	in := &r.insts[at]
	return in.Op == api.OpByte && place < len(r.line) && sets.Has(in.Set, int(r.line[place]))
}

// enter puts in an instruction, and all that it leads to without a byte. What is there already stays as it is: it began no later.
func (r *run) enter(c crowd, at, place, begun int) {
	k := c.Len()
	c.Put(at)
	// Those that come in stand behind those that are looked at: so the set is the list of what is left to do, too.
	for ; k < c.Len(); k++ {
		at, _ := c.At(k)
		c.begun[at] = begun
		r.lead(c, at, place)
	}
}

// lead puts in what an instruction leads to without a byte.
func (r *run) lead(c crowd, at, place int) {
	in := &r.insts[at]
	switch in.Op {
	case api.OpSplit:
		c.Put(in.X)
		c.Put(in.Y)
	case api.OpJump:
		c.Put(in.X)
	case api.OpOpen, api.OpClose:
		c.Put(at + 1)
	case api.OpBegin:
		if place == 0 {
			c.Put(at + 1)
		}
	case api.OpEnd:
		if place == len(r.line) {
			c.Put(at + 1)
		}
	}
}
