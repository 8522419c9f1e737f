package back

import (
	"slices"

	"dredge/api"
)

// bare is a program without what nobody asks for: groups that no OpBack has, and counters that no OpTurn has, would tell configurations apart that go on alike. Those that are left are numbered anew, without gaps.
type bare struct {
	insts  []api.Inst
	fold   bool
	groups int
	bounds []int  // of each counter: more turns than these are as good as one more
	meets  []bool // of each instruction: may several ways come to one configuration of it?
}

func bareOf(p api.Program) bare {
	b := bare{insts: slices.Clone(p.Insts), fold: p.Fold}
	groups, counters := map[int]int{}, map[int]int{}
	for _, in := range p.Insts {
		switch in.Op {
		case api.OpBack:
			number(groups, in.N)
		case api.OpTurn:
			n := number(counters, in.N)
			if n == len(b.bounds) {
				b.bounds = append(b.bounds, 0)
			}
			// Infinite is below each Min.
			b.bounds[n] = max(b.bounds[n], in.Min, in.Max)
		}
	}
	b.groups = len(groups)
	for at, in := range b.insts {
		switch in.Op {
		case api.OpOpen, api.OpClose, api.OpBack:
			b.insts[at] = renumbered(in, at, groups)
		case api.OpZero, api.OpTurn:
			b.insts[at] = renumbered(in, at, counters)
		}
	}
	b.meets = b.meetings()
	return b
}

// number is a group's or counter's new number.
func number(numbers map[int]int, old int) int {
	n, there := numbers[old]
	if !there {
		n = len(numbers)
		numbers[old] = n
	}
	return n
}

// renumbered is an instruction with its new number; if nobody asks for that one, it only leads on.
func renumbered(in api.Inst, at int, numbers map[int]int) api.Inst {
	n, there := numbers[in.N]
	if !there {
		return api.Inst{Op: api.OpJump, X: at + 1}
	}
	in.N = n
	return in
}

// meetings is where ways meet: where the program begins, where several instructions lead to, and behind one that may make the same what was not. To remember what was looked at there is enough: to all else one comes from one configuration alone, and who goes round comes by there.
func (b bare) meetings() []bool {
	come, meets := make([]bool, len(b.insts)), make([]bool, len(b.insts))
	lead := func(to int, merges bool) {
		meets[to] = meets[to] || come[to] || merges
		come[to] = true
	}
	lead(0, true)
	for at, in := range b.insts {
		switch in.Op {
		case api.OpSplit:
			lead(in.X, false)
			lead(in.Y, false)
		case api.OpJump:
			lead(in.X, false)
		case api.OpTurn:
			lead(in.X, true)
			lead(in.Y, false)
		case api.OpMatch:
		default:
			lead(at+1, b.merges(in.Op))
		}
	}
	return meets
}

// merges tells whether an instruction that leads to the next one may make configurations the same: it forgets what a group or a counter was; or, by going on to another place, whether that is where a turn began.
func (b bare) merges(op int) bool {
	switch op {
	case api.OpOpen, api.OpClose, api.OpZero:
		return true
	case api.OpByte, api.OpBack:
		return len(b.bounds) > 0
	}
	return false
}
