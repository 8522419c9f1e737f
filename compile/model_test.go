package compile_test

import (
	"slices"

	"dredge/api"
)

// notes is numbers from -1 on, in a text: so configurations can be held against each other.
type notes string

func noNotes(count int) notes {
	return notes(make([]byte, 2*count))
}

func (n notes) at(i int) int {
	return int(n[2*i])<<8 + int(n[2*i+1]) - 1
}

func (n notes) with(i, number int) notes {
	l := []byte(n)
	l[2*i], l[2*i+1] = byte((number+1)>>8), byte(number+1)
	return notes(l)
}

// configuration is chapter 14's: of each group stand in groups where its part begins and ends, and where it began last; of each counter in counters how many turns it has had, less one, and where the last one began. -1: nothing.
type configuration struct {
	inst, place      int
	groups, counters notes
}

// player plays a program in a line, as chapter 14 says it.
type player struct {
	program api.Program
	line    string
	seen    map[configuration]bool
	left    []configuration
	ends    []int
}

// played is the places up to which a program matches a line from a place on, rising.
func played(p api.Program, line string, at int) []int {
	pl := playedOut(p, line, at)
	slices.Sort(pl.ends)
	return slices.Compact(pl.ends)
}

// playedOut is a player that has been everywhere.
func playedOut(p api.Program, line string, at int) *player {
	pl := &player{program: p, line: line, seen: map[configuration]bool{}}
	pl.come(configuration{0, at, noNotes(3 * p.Groups), noNotes(2 * p.Counters)})
	for len(pl.left) > 0 {
		c := pl.left[len(pl.left)-1]
		pl.left = pl.left[:len(pl.left)-1]
		pl.step(c)
	}
	return pl
}

func (pl *player) come(c configuration) {
	if !pl.seen[c] {
		pl.seen[c] = true
		pl.left = append(pl.left, c)
	}
}

// to is a configuration at another instruction.
func (c configuration) to(inst int) configuration {
	c.inst = inst
	return c
}

func (pl *player) step(c configuration) {
	in, on := pl.program.Insts[c.inst], c.to(c.inst+1)
	switch in.Op {
	case api.OpByte:
		if c.place < len(pl.line) && in.Set[pl.line[c.place]/64]>>(pl.line[c.place]%64)&1 == 1 {
			on.place++
			pl.come(on)
		}
	case api.OpSplit:
		pl.come(c.to(in.X))
		pl.come(c.to(in.Y))
	case api.OpJump:
		pl.come(c.to(in.X))
	case api.OpBegin:
		if c.place == 0 {
			pl.come(on)
		}
	case api.OpEnd:
		if c.place == len(pl.line) {
			pl.come(on)
		}
	case api.OpOpen:
		on.groups = c.groups.with(3*in.N+2, c.place)
		pl.come(on)
	case api.OpClose:
		from := c.groups.at(3*in.N + 2)
		if from < 0 {
			from = c.place
		}
		on.groups = c.groups.with(3*in.N, from).with(3*in.N+1, c.place)
		pl.come(on)
	case api.OpBack:
		pl.back(c, in.N)
	case api.OpZero:
		on.counters = c.counters.with(2*in.N, -1).with(2*in.N+1, -1)
		pl.come(on)
	case api.OpTurn:
		pl.turn(c, in)
	case api.OpMatch:
		pl.ends = append(pl.ends, c.place)
	}
}

func (pl *player) back(c configuration, number int) {
	from, to := c.groups.at(3*number), c.groups.at(3*number+1)
	end := c.place + to - from
	if from < 0 || end > len(pl.line) {
		return
	}
	for i := from; i < to; i++ {
		if !alike(pl.line[i], pl.line[c.place+i-from], pl.program.Fold) {
			return
		}
	}
	c.place = end
	pl.come(c.to(c.inst + 1))
}

func alike(a, b byte, fold bool) bool {
	return lowered(a, fold) == lowered(b, fold)
}

func lowered(b byte, fold bool) byte {
	if fold && b >= 'A' && b <= 'Z' {
		return b + 32
	}
	return b
}

func (pl *player) turn(c configuration, in api.Inst) {
	k, began := c.counters.at(2*in.N)+1, c.counters.at(2*in.N+1)
	if k > in.Min && began == c.place {
		return
	}
	if in.Max == api.Infinite || k < in.Max {
		more := c.to(in.X)
		more.counters = c.counters.with(2*in.N, k).with(2*in.N+1, c.place)
		pl.come(more)
	}
	if k >= in.Min {
		pl.come(c.to(in.Y))
	}
}
